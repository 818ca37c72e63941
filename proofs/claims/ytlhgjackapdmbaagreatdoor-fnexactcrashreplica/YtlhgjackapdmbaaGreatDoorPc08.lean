/- Contracts. -/
import Derived.Test.YtlhgjackapdmbaaGreatDoorPc06
import Derived.Test.YtlhgjackapdmbaaGreatDoorPc05
import Derived.Deep.AppendLies
import Derived.OpenShut
import Derived.ChangeSame
import Derived.Deep.Slices
namespace Go.Proofs.YtlhgjackapdmbaaGreatDoor
set_option maxRecDepth 100000
set_option maxHeartbeats 8000000
open Go.RowKit
set_option linter.unusedVariables false
set_option linter.unusedSimpArgs false

def Box2 (w:World) (B:Nat) (x y:Value):Prop:=w.cell? ⟨B,0,none⟩=some x∧w.cell? ⟨B,1,none⟩=some y
theorem Box2.lt {w:World} {B:Nat} {x y:Value} (h:Box2 w B x y):B < w.heap.size:=zL w ⟨B,0,none⟩ h.1
theorem Box2.below {w w':World} {B:Nat} {x y:Value} (h:Box2 w B x y) (hb:Below w.heap.size w w'):Box2 w' B x y :=
 ⟨(hb.cell (p:=⟨B,0,none⟩) h.lt).trans h.1,(hb.cell (p:=⟨B,1,none⟩) h.lt).trans h.2⟩
theorem Box2.grown {w w':World} {B:Nat} {x y:Value} {row:Option Nat} (h:Box2 w B x y) (hg:w.grownBy w' row) (hne:some B≠row):Box2 w' B x y :=
 ⟨hg.cell h.1 hne,hg.cell h.2 hne⟩
theorem Box2.new (w:World) (x y:Value) (t:TypeId):Box2 (w.alloc (.cells #[x,y] t)) w.heap.size x y:=⟨by simp,by simp⟩

def qA4:List LkI→List Value
 | []=>[]
 | p::ps => .int .i64 p.e :: .int .i64 p.c :: .int .i64 p.p :: .int .i64 p.f::qA4 ps
theorem qR0 (a b:List LkI):qA4 (a++b)=qA4 a++qA4 b:=by
 induction a with
 | nil=>rfl
 | cons p ps ih=>simp [qA4,ih]
theorem qF2 (a:List LkI):(qA4 a).length=a.length * 4:=by
 induction a with
 | nil=>rfl
 | cons p ps ih=>simp [qA4,ih];omega
theorem QN3:∀ (a:List LkI) (k:Nat) (p:LkI),a[k]? = some p→(qA4 a)[k * 4]? = some (.int .i64 p.e)∧(qA4 a)[k * 4+1]? = some (.int .i64 p.c)∧(qA4 a)[k * 4+2]? = some (.int .i64 p.p)∧(qA4 a)[k * 4+3]? = some (.int .i64 p.f)
 | [],_,_,h=>by simp at h
 | q::qs,0,p,h=>by simp at h;subst h;exact ⟨rfl,rfl,rfl,rfl⟩
 | q::qs,k+1,p,h=>by
  have:=QN3 qs k p (by simpa using h)
  rw [show (k+1) * 4=k * 4+1+1+1+1 by omega,show k * 4+1+1+1+1+1=(k * 4+1)+1+1+1+1 by omega,show k * 4+1+1+1+1+2=(k * 4+2)+1+1+1+1 by omega,show k * 4+1+1+1+1+3=(k * 4+3)+1+1+1+1 by omega]
  simpa [qA4] using this
theorem qO6 (a:List LkI):∀ u∈qA4 a,u.oneCell'=true:=by
 induction a with
 | nil=>simp [qA4]
 | cons p ps ih =>
  intro u hu
  simp only [qA4,List.mem_cons] at hu
  rcases hu with rfl | rfl | rfl | rfl | hu
  ·rfl
  ·rfl
  ·rfl
  ·rfl
  ·exact ih u hu
def qA1 (w:World) (B:Nat) (v:Value) (gs:List LkI):Prop:=w.ownsRow B 98 4 v gs.length (qA4 gs)
theorem qA1.shape {w:World} {B:Nat} {v:Value} {gs:List LkI} (h:qA1 w B v gs) (hv:v ≠ .slice none 0 0):∃ g cap,v = .slice (some ⟨g,0,none⟩) gs.length cap:=by
 have h0:w.ownsRow B 98 4 v gs.length (qA4 gs):=h
 rcases h0.2 with ⟨h',_⟩ | ⟨g,cap,cur,h',_⟩
 ·exact absurd h' hv
 ·exact ⟨g,cap,h'⟩
theorem qA1.below {w w':World} {B:Nat} {v:Value} {gs:List LkI} (h:qA1 w B v gs) (hb:Below w.heap.size w w'):qA1 w' B v gs :=
 World.ownsRow.kept (row:=none) h ⟨hb.os,hb.tape,hb.output,hb.size,fun k hk _=>hb.block k hk⟩ (by cases v.ownBlock <;> simp)
theorem qB0 {w:World} {B B':Nat} {v:Value} {gs:List LkI} (h:qA1 w B v gs) (hb:B'≤B):qA1 w B' v gs:=by
 have h0:w.ownsRow B 98 4 v gs.length (qA4 gs):=h
 refine ⟨h0.1,?_⟩
 rcases h0.2 with h' | ⟨g,cap,cur,e,hg,rest⟩
 ·exact .inl h'
 ·exact .inr ⟨g,cap,cur,e,Nat.le_trans hb hg,rest⟩
theorem qV7 {w:World} {B:Nat} {v:Value} {es:List LkI} {x:LkI} (h:w.ownsRow B 98 4 v (es.length+1) (qA4 es++[.int .i64 x.e,.int .i64 x.c,.int .i64 x.p,.int .i64 x.f])):qA1 w B v (es++[x]):=by
 unfold qA1
 rw [List.length_append,qR0]
 exact h
theorem QB9 {w1 Z w':World} {B:Nat} {v:Value} {es:List LkI} (ho:qA1 Z B v es) (hb:Below B w1 Z) (hg:Z.grownBy w' v.ownBlock) (hB:B≤Z.heap.size):Below B w1 w':=by
 have h0:Z.ownsRow B 98 4 v es.length (qA4 es):=ho
 exact hb.grown hg hB (fun j hj=>(h0.lt j hj).1)
def LkV (w:World) (a:Option Addr) (zs:List LkI):Prop:=∀ k p,zs[k]? = some p→∃ g,a=some ⟨g,0,none⟩∧QC6 w g (k * 4) p
theorem LkV.below {w w':World} {a:Option Addr} {zs:List LkI} (h:LkV w a zs) (hb:Below w.heap.size w w'):LkV w' a zs:=fun k p e=>by
 obtain ⟨g,ha,h1⟩:=h k p e
 exact ⟨g,ha,h1.below hb (zL w ⟨g,k * 4,none⟩ h1.1)⟩
theorem LkV.isIn {w:World} {a:Option Addr} {n:Nat} {zs:List LkI} (hn:zs.length=n) (h:LkV w a zs):qJ8 w a n zs:=by
 refine ⟨hn,fun hp=>?_⟩
 obtain ⟨g,ha,_⟩:=h 0 _ (List.getElem?_eq_getElem (by omega))
 refine ⟨g,0,ha,fun k x e=>?_⟩
 obtain ⟨g',ha',hx⟩:=h k x e
 rw [ha] at ha'
 cases ha'
 rw [Nat.zero_add]
 exact hx
theorem qA1.view {w:World} {B:Nat} {a:Option Addr} {n cap:Nat} {zs:List LkI} (h:qA1 w B (.slice a n cap) zs):LkV w a zs:=by
 intro k p e
 have hk:k < zs.length:=by
  by_cases q:k < zs.length
  ·exact q
  ·rw [List.getElem?_eq_none (by omega)] at e;cases e
 have h0:w.ownsRow B 98 4 (.slice a n cap) zs.length (qA4 zs):=h
 rcases h0.2 with ⟨h',h''⟩ | ⟨g,cap',cur,h',_⟩
 ·omega
 ·simp at h'
  obtain ⟨rfl,rfl,rfl⟩:=h'
  obtain ⟨f0,f1,f2,f3⟩:=QN3 zs k p e
  exact ⟨g,rfl,(h0.cellAt (k * 4) (by omega)).trans f0,(h0.cellAt (k * 4+1) (by omega)).trans f1,(h0.cellAt (k * 4+2) (by omega)).trans f2,(h0.cellAt (k * 4+3) (by omega)).trans f3⟩
theorem qA1.form {w:World} {B:Nat} {v:Value} {zs:List LkI} (h:qA1 w B v zs):(v = .slice none 0 0∧zs=[])∨∃ g cap,v = .slice (some ⟨g,0,none⟩) zs.length cap∧B≤g∧g < w.heap.size∧zs.length≤cap∧cap≤maxLen:=by
 have h0:w.ownsRow B 98 4 v zs.length (qA4 zs):=h
 rcases h0.2 with ⟨h',h''⟩ | ⟨g,cap',cur,h',hb,hg,hc,hm,_⟩
 ·exact .inl ⟨h',List.length_eq_zero_iff.1 h''⟩
 ·exact .inr ⟨g,cap',h',hb,(Array.getElem?_eq_some_iff.1 hg).1,hc,hm⟩
theorem qA1.slice {w:World} {B:Nat} {v:Value} {zs:List LkI} (h:qA1 w B v zs):∃ a cap,v = .slice a zs.length cap:=by
 rcases h.form with ⟨rfl,rfl⟩ | ⟨g,cap,rfl,_⟩
 ·exact ⟨none,0,rfl⟩
 ·exact ⟨_,_,rfl⟩
theorem qA1.alloc {w:World} {B:Nat} {v:Value} {zs:List LkI} (h:qA1 w B v zs) (o:Obj):qA1 (w.alloc o) B v zs:=World.ownsRow.alloc h o
theorem flatLk_set (a:List LkI) (k:Nat) (p:LkI):qA4 (a.set k p)=(((((qA4 a).set (k * 4) (.int .i64 p.e)).set (k * 4+1) (.int .i64 p.c)).set (k * 4+2) (.int .i64 p.p)).set (k * 4+3) (.int .i64 p.f)):=by
 induction a generalizing k with
 | nil=>simp [qA4]
 | cons q qs ih =>
  cases k with
  | zero=>simp [qA4]
  | succ k =>
   rw [show (k+1) * 4=k * 4+1+1+1+1 by omega]
   simp [qA4,ih]
theorem qA1.put {w:World} {B g cap:Nat} {zs:List LkI} {n:Nat} (hn:n=zs.length) (h:qA1 w B (.slice (some ⟨g,0,none⟩) n cap) zs) (j:Nat) (p:LkI) :
  qA1 ((((w.setCell ⟨g,j * 4,none⟩ (.int .i64 p.e)).setCell ⟨g,j * 4+1,none⟩ (.int .i64 p.c)).setCell ⟨g,j * 4+2,none⟩ (.int .i64 p.p)).setCell ⟨g,j * 4+3,none⟩ (.int .i64 p.f)) B (.slice (some ⟨g,0,none⟩) n cap) (zs.set j p)∧w.grownBy ((((w.setCell ⟨g,j * 4,none⟩ (.int .i64 p.e)).setCell ⟨g,j * 4+1,none⟩ (.int .i64 p.c)).setCell ⟨g,j * 4+2,none⟩ (.int .i64 p.p)).setCell ⟨g,j * 4+3,none⟩ (.int .i64 p.f)) (some g):=by
 subst hn
 have h0:w.ownsRow B 98 4 (.slice (some ⟨g,0,none⟩) zs.length cap) zs.length (qA4 zs):=h
 have h1:=h0.stored (j * 4) (.int .i64 p.e)
 have h2:=h1.1.stored (j * 4+1) (.int .i64 p.c)
 have h3:=h2.1.stored (j * 4+2) (.int .i64 p.p)
 have h4:=h3.1.stored (j * 4+3) (.int .i64 p.f)
 refine ⟨?_,qF7 (qF7 (qF7 h1.2 h2.2) h3.2) h4.2⟩
 show World.ownsRow _ B 98 4 _ (zs.set j p).length (qA4 (zs.set j p))
 rw [flatLk_set,List.length_set]
 exact h4.1
theorem qA1.cell {w:World} {B g cap:Nat} {zs:List LkI} {n:Nat} (hn:n=zs.length) (h:qA1 w B (.slice (some ⟨g,0,none⟩) n cap) zs) (j:Nat) (hj:j < n * 4):(∃ v,w.cell? ⟨g,j,none⟩=some v)∧w.frozen? ⟨g,j,none⟩=false:=by
 subst hn
 have h0:w.ownsRow B 98 4 (.slice (some ⟨g,0,none⟩) zs.length cap) zs.length (qA4 zs):=h
 exact ⟨⟨_,(h0.cellAt j hj).trans (List.getElem?_eq_getElem (by rw [qF2];exact hj))⟩,h0.frozenAt j⟩
theorem qJ0.below {w w':World} {g n:Nat} (h:qJ0 w g n) (hg:g < w.heap.size) (hb:Below w.heap.size w w'):qJ0 w' g n :=
 ⟨fun j hj=>by obtain ⟨v,e⟩:=h.1 j hj;exact ⟨v,(hb.cell (p:=⟨g,j,none⟩) hg).trans e⟩,fun j=>(hb.frozen (p:=⟨g,j,none⟩) hg).trans (h.2 j)⟩
theorem qJ0.grown {w w':World} {g n:Nat} {row:Option Nat} (h:qJ0 w g n) (hg:g < w.heap.size) (hr:w.grownBy w' row) (hne:some g≠row):qJ0 w' g n :=
 ⟨fun j hj=>by obtain ⟨v,e⟩:=h.1 j hj;exact ⟨v,hr.cell e hne⟩,fun j=>by
  have:=h.2 j
  unfold World.frozen? at this ⊢
  simp only at this ⊢
  rw [hr.block g hg hne]
  exact this⟩
theorem qJ0.set {w:World} {g n:Nat} (h:qJ0 w g n) (o:Nat) (v:Value):qJ0 (w.setCell ⟨g,o,none⟩ v) g n:=by
 refine ⟨fun j hj=>?_,fun j=>by simp only [World.frozen?_setCell];exact h.2 j⟩
 obtain ⟨u,e⟩:=h.1 j hj
 by_cases q:j=o
 ·subst q
  exact ⟨v,by simp [go_sem,e]⟩
 ·exact ⟨u,by rw [World.cell?_setCell_other (h:=fun e=>q (by have:=congrArg Addr.off e;simp at this;omega))];exact e⟩
theorem QL5 (g n cap:Nat) (k0:Int) (w:World) (hn:n≤1048576) (h0:0≤k0) (h1:k0≤100000000) (h:qJ0 w g n) :
  Calls Tryz.prog 44 #[.slice (some ⟨g,0,none⟩) n cap,.int .i64 k0] w fun e w'=>e = .returned (.int .i64 (k0+4 * (n:Int)))∧w.grownBy w' (some g):=by
 have HO:Hid (qJ0 w g n):=h
 clear h
 have hn':(n:Int)≤1048576:=by omega
 go_enter Tryz.func44,Tryz.ntmps44
 go_wp2
 go_loopw [1,5] (fun q i wr=>∃ (j:Nat),j≤n∧i = .int .i64 (j:Int)∧q = .int .i64 (k0+4 * (j:Int))∧qJ0 wr g n∧w.grownBy wr (some g))
  (fun _ i _=>n - (intOf i).toNat)
 case atStart=>exact ⟨0,Nat.zero_le _,rfl,by simp,HO.out,qM6 _ _⟩
 case round =>
  obtain ⟨j,hj,rfl,rfl,hroom,hgr⟩:=hrel
  have HG:Hid (qJ0 wr g n∧w.grownBy wr (some g)):=⟨hroom,hgr⟩
  by_cases hlt:j < n
  ·have hlt':(j:Int) < (n:Int):=by omega
   obtain ⟨v0,c0⟩:=hroom.1 (j * 4) (by omega)
   have f0:=hroom.2 (j * 4)
   obtain ⟨v1,c1⟩:=hroom.1 (j * 4+1) (by omega)
   have f1:=hroom.2 (j * 4+1)
   obtain ⟨v2,c2⟩:=hroom.1 (j * 4+2) (by omega)
   have f2:=hroom.2 (j * 4+2)
   obtain ⟨v3,c3⟩:=hroom.1 (j * 4+3) (by omega)
   have f3:=hroom.2 (j * 4+3)
   clear hroom hgr
   go_wp2
   refine ⟨⟨j+1,by omega,by go_num,?_,?_,?_⟩,by simp [intOf];omega⟩
   ·congr 1;omega
   ·exact ((((HG.out.1.set _ _).set _ _).set _ _).set _ _)
   ·exact (qF7 (qF7 (qF7 (qF7 HG.out.2 (qJ3 _ _ _ _)) (qJ3 _ _ _ _)) (qJ3 _ _ _ _)) (qJ3 _ _ _ _))
  ·have hjn:j=n:=by omega
   subst hjn
   go_wp2
   go_ret
   exact ⟨rfl,hgr⟩
theorem qS4 {W:World} {B:Nat} {a:Option Addr} {n cap:Nat} {ys:List LkI} (h:qA1 W B (.slice a n cap) ys):∀ q,(Value.slice a n cap).ownBlock=some q→B≤q∧q < W.heap.size:=by
 have h0:W.ownsRow B 98 4 (.slice a n cap) ys.length (qA4 ys):=h
 exact fun q e=>h0.lt q e
theorem QR3 {W W':World} {B q:Nat} {a:Option Addr} {n cap:Nat} {ys:List LkI} (h:qA1 W B (.slice a n cap) ys) (hg:W.grownBy W' (some q)) (hq:q < B):qA1 W' B (.slice a n cap) ys:=by
 refine World.ownsRow.kept h hg ?_
 rcases a with _ | ⟨g,o,sp⟩
 ·rcases h.form with ⟨h1,_⟩ | ⟨g',cap',h1,h2,_⟩
  ·simp at h1;obtain ⟨rfl,rfl⟩:=h1;exact .inl rfl
  ·simp at h1
 ·rcases h.form with ⟨h1,_⟩ | ⟨g',cap',h1,h2,_⟩
  ·simp at h1
  ·simp at h1
   obtain ⟨⟨rfl,rfl,rfl⟩,_⟩:=h1
   exact .inr (by simp [Value.ownBlock];omega)

section
open Go.RowKit Go.ChangeShapes Go.WideShapes
theorem Tryz.cells139:Tryz.prog.cellsOf 139=2:=by kernel_rfl
theorem Tryz.cells2:Tryz.prog.cellsOf 2=1:=by kernel_rfl
theorem list2 {α:Type} {l:List α} (h:l.length=2):∃ a b,l=[a,b]:=by
 match l,h with
 | [a,b],_=>exact ⟨a,b,rfl⟩
theorem list5 {α:Type} {l:List α} (h:l.length=5):∃ a b c d e,l=[a,b,c,d,e]:=by
 match l,h with
 | [a,b,c,d,e],_=>exact ⟨a,b,c,d,e,rfl⟩
theorem list8 {α:Type} {l:List α} (h:l.length=8):∃ a b c d e f g i,l=[a,b,c,d,e,f,g,i]:=by
 match l,h with
 | [a,b,c,d,e,f,g,i],_=>exact ⟨a,b,c,d,e,f,g,i,rfl⟩
theorem QD2 {H:Type} {enc:TypeId × Value→H} {w:World} {base:Nat} {spare:Nat→Bool} {held:Bool} {fuel:Nat} {cs:List Value} {x:DataW H × List MemPlace} (h:DataW.trod enc Tryz.prog w base spare held fuel 139 cs=some x) :
  ∃ o n,cs=[.int .i64 o,.int .i64 n]:=by
 obtain ⟨y0,y1,n,_,hl,h0,h1⟩:=trod_struct2 Tryz.underlying139 h
 rw [Tryz.cells139] at hl
 obtain ⟨c0,c1,rfl⟩:=list2 hl
 simp [Tryz.cells2] at h0 h1
 obtain ⟨a,e0,_,_⟩:=DataW.trod_int Tryz.underlying2 h0
 obtain ⟨b,e1,_,_⟩:=DataW.trod_int Tryz.underlying2 h1
 simp at e0 e1
 exact ⟨a,b,by rw [e0,e1]⟩
theorem Tryz.cells141:Tryz.prog.cellsOf 141=8:=by kernel_rfl
theorem rule_list {H:Type} {enc:TypeId × Value→H} {w:World} {base:Nat} {spare:Nat→Bool} {held:Bool} {fuel:Nat} {cs:List Value} {x:DataW H × List MemPlace} (h:DataW.trod enc Tryz.prog w base spare held fuel 141 cs=some x) :
  ∃ r:qA2,cs=[.int .i64 r.k,.int .i64 r.ho,.int .i64 r.hn,.int .i64 r.w,.int .i64 r.oo,.int .i64 r.on,.int .i64 r.to,.int .i64 r.tn]:=by
 obtain ⟨xs,n,_,_,hl,hlen,hf⟩:=DataW.trod_struct Tryz.underlying141 h
 rw [Tryz.cells141] at hl
 obtain ⟨c0,c1,c2,c3,c4,c5,c6,c7,rfl⟩:=list8 hl
 obtain ⟨y0,y1,y2,y3,y4,rfl⟩:=list5 hlen
 have g0:=hf 0 _ rfl
 have g1:=hf 1 _ rfl
 have g2:=hf 2 _ rfl
 have g3:=hf 3 _ rfl
 have g4:=hf 4 _ rfl
 simp [Tryz.cells2,Tryz.cells139] at g0 g1 g2 g3 g4
 obtain ⟨k,e0,_,_⟩:=DataW.trod_int Tryz.underlying2 g0
 obtain ⟨wh,e3,_,_⟩:=DataW.trod_int Tryz.underlying2 g2
 obtain ⟨ho,hn,e1⟩:=QD2 g1
 obtain ⟨oo,on,e4⟩:=QD2 g3
 obtain ⟨tw,tn,e6⟩:=QD2 g4
 simp at e0 e1 e3 e4 e6
 obtain ⟨rfl,rfl⟩:=e1
 obtain ⟨rfl,rfl⟩:=e4
 obtain ⟨rfl,rfl⟩:=e6
 subst e0 e3
 exact ⟨⟨k,ho,hn,wh,oo,on,tw,tn⟩,rfl⟩
theorem cells8 {w:World} {base:Nat} {a:Addr} {r:qA2} (h:w.cells? base a 8=some [.int .i64 r.k,.int .i64 r.ho,.int .i64 r.hn,.int .i64 r.w,.int .i64 r.oo,.int .i64 r.on,.int .i64 r.to,.int .i64 r.tn]):a.spot=none∧qC7 w a.block a.off r:=by
 have e:List.range 8=[0,1,2,3,4,5,6,7]:=rfl
 unfold World.cells? at h
 split at h
 ·rw [e] at h
  simp only [List.mapM_cons,List.mapM_nil,Option.bind_eq_bind,Option.bind_eq_some_iff,Option.pure_def,Option.some.injEq,List.cons.injEq] at h
  obtain ⟨x0,h0,y0,⟨x1,h1,y1,⟨x2,h2,y2,⟨x3,h3,y3,⟨x4,h4,y4,⟨x5,h5,y5,⟨x6,h6,y6,⟨x7,h7,y7,rfl,e7⟩,e6⟩,e5⟩,e4⟩,e3⟩,e2⟩,e1⟩,e0,ee⟩:=h
  subst e0
  rw [← e1] at ee
  simp only [List.cons.injEq] at ee
  obtain ⟨rfl,ee⟩:=ee
  rw [← e2] at ee
  simp only [List.cons.injEq] at ee
  obtain ⟨rfl,ee⟩:=ee
  rw [← e3] at ee
  simp only [List.cons.injEq] at ee
  obtain ⟨rfl,ee⟩:=ee
  rw [← e4] at ee
  simp only [List.cons.injEq] at ee
  obtain ⟨rfl,ee⟩:=ee
  rw [← e5] at ee
  simp only [List.cons.injEq] at ee
  obtain ⟨rfl,ee⟩:=ee
  rw [← e6] at ee
  simp only [List.cons.injEq] at ee
  obtain ⟨rfl,ee⟩:=ee
  rw [← e7] at ee
  simp only [List.cons.injEq] at ee
  obtain ⟨rfl,_⟩:=ee
  obtain ⟨b,off,spot⟩:=a
  have hspot:spot=none:=by simpa [Addr.add] using World.cell?_spot h0
  subst hspot
  simp only [Addr.add] at h0 h1 h2 h3 h4 h5 h6 h7
  exact ⟨rfl,by simpa using h0,by simpa using h1,by simpa using h2,by simpa using h3,by simpa using h4,by simpa using h5,by simpa using h6,by simpa using h7⟩
 ·cases h
instance:Inhabited qA2:=⟨⟨0,0,0,0,0,0,0,0⟩⟩
theorem rules_shape {H:Type} {enc:TypeId × Value→H} {w:World} {base:Nat} {spare:Nat→Bool} {held:Bool} {fuel:Nat} {a0:Option Addr} {len cap:Nat} {x:DataW H × List MemPlace} (h:DataW.trod enc Tryz.prog w base spare held fuel 59 [.slice a0 len cap]=some x) :
  ∃ zs:List qA2,RulesArg w a0 len zs:=by
 rcases Go.Deep.open_slice Tryz.underlying59 h with ⟨hcs,_⟩ | ⟨a,l,c,m,n,D,Pl,hcs,hb,hl,hm,hmm,_,hel⟩
 ·simp at hcs
  obtain ⟨rfl,rfl,rfl⟩:=hcs
  exact ⟨[],⟨rfl,fun h=>by omega⟩,Nat.zero_le _⟩
 ·simp at hcs
  obtain ⟨rfl,rfl,rfl⟩:=hcs
  have hle:len≤m:=by rw [hmm];split <;> omega
  rw [Tryz.cells141] at hel
  have hk:∀ i,i < len→∃ r:qA2,w.cells? base (a.add (i * 8)) 8=some [.int .i64 r.k,.int .i64 r.ho,.int .i64 r.hn,.int .i64 r.w,.int .i64 r.oo,.int .i64 r.on,.int .i64 r.to,.int .i64 r.tn]:=fun i hi=>by
   obtain ⟨cs',hc,ht⟩:=hel i (by omega)
   obtain ⟨r,rfl⟩:=rule_list ht
   exact ⟨r,hc⟩
  obtain ⟨f,hf⟩:=Go.Deep.choose_lt hk
  refine ⟨(List.range len).map f,⟨by simp,fun hp=>?_⟩,Nat.le_trans hl hm⟩
  obtain ⟨hsp,_⟩:=cells8 (hf 0 hp)
  obtain ⟨b,off,spot⟩:=a
  simp [Addr.add] at hsp
  subst hsp
  refine ⟨b,off,rfl,fun k r e=>?_⟩
  have hkl:k < len:=by
   by_cases q:k < len
   ·exact q
   ·rw [List.getElem?_eq_none (by simp;omega)] at e;cases e
  rw [List.getElem?_map,List.getElem?_range hkl] at e
  simp at e
  subst e
  obtain ⟨_,hr⟩:=cells8 (hf k hkl)
  have : ((⟨b,off,none⟩:Addr).add (k * 8))=⟨b,off+k * 8,none⟩:=Go.WideShapes.add_plain ..
  rw [this] at hr
  exact hr
end

end Go.Proofs.YtlhgjackapdmbaaGreatDoor
