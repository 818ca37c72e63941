/- Contracts. -/
import Derived.Test.YtlhgjackapdmbaaGreatDoorPe07
import Derived.Test.YtlhgjackapdmbaaGreatDoorPe06
import Derived.Deep.AppendLies
namespace Go.Proofs.YtlhgjackapdmbaaGreatDoor
set_option maxRecDepth 100000
set_option maxHeartbeats 8000000
open Go.RowKit
set_option linter.unusedVariables false
set_option linter.unusedSimpArgs false

def Box2 (w:World) (B:Nat) (x y:Value):Prop:=w.cell? ⟨B,0,none⟩=some x∧w.cell? ⟨B,1,none⟩=some y
theorem Box2.lt {w:World} {B:Nat} {x y:Value} (h:Box2 w B x y):B < w.heap.size:=zL w ⟨B,0,none⟩ h.1
theorem Box2.below {w w':World} {B:Nat} {x y:Value} (h:Box2 w B x y) (hb:Below w.heap.size w w'):Box2 w' B x y :=
 ⟨(hb.cell (p:=⟨B,0,none⟩) h.lt).trans h.1,(hb.cell (p:=⟨B,1,none⟩) h.lt).trans h.2⟩
theorem Box2.grown {w w':World} {B:Nat} {x y:Value} {row:Option Nat} (h:Box2 w B x y) (hg:w.grownBy w' row) (hne:some B≠row):Box2 w' B x y :=
 ⟨hg.cell h.1 hne,hg.cell h.2 hne⟩
theorem Box2.new (w:World) (x y:Value) (t:TypeId):Box2 (w.alloc (.cells #[x,y] t)) w.heap.size x y:=⟨by simp,by simp⟩

def qA3:List LkI→List Value
 | []=>[]
 | p::ps => .int .i64 p.e :: .int .i64 p.c :: .int .i64 p.p :: .int .i64 p.f::qA3 ps
theorem qR3 (a b:List LkI):qA3 (a++b)=qA3 a++qA3 b:=by
 induction a with
 | nil=>rfl
 | cons p ps ih=>simp [qA3,ih]
theorem qF4 (a:List LkI):(qA3 a).length=a.length * 4:=by
 induction a with
 | nil=>rfl
 | cons p ps ih=>simp [qA3,ih];omega
theorem QN2:∀ (a:List LkI) (k:Nat) (p:LkI),a[k]? = some p→(qA3 a)[k * 4]? = some (.int .i64 p.e)∧(qA3 a)[k * 4+1]? = some (.int .i64 p.c)∧(qA3 a)[k * 4+2]? = some (.int .i64 p.p)∧(qA3 a)[k * 4+3]? = some (.int .i64 p.f)
 | [],_,_,h=>by simp at h
 | q::qs,0,p,h=>by simp at h;subst h;exact ⟨rfl,rfl,rfl,rfl⟩
 | q::qs,k+1,p,h=>by
  have:=QN2 qs k p (by simpa using h)
  rw [show (k+1) * 4=k * 4+1+1+1+1 by omega,show k * 4+1+1+1+1+1=(k * 4+1)+1+1+1+1 by omega,show k * 4+1+1+1+1+2=(k * 4+2)+1+1+1+1 by omega,show k * 4+1+1+1+1+3=(k * 4+3)+1+1+1+1 by omega]
  simpa [qA3] using this
theorem qP1 (a:List LkI):∀ u∈qA3 a,u.oneCell'=true:=by
 induction a with
 | nil=>simp [qA3]
 | cons p ps ih =>
  intro u hu
  simp only [qA3,List.mem_cons] at hu
  rcases hu with rfl | rfl | rfl | rfl | hu
  ·rfl
  ·rfl
  ·rfl
  ·rfl
  ·exact ih u hu
def qA4 (w:World) (B:Nat) (v:Value) (gs:List LkI):Prop:=w.ownsRow B 98 4 v gs.length (qA3 gs)
theorem qA4.shape {w:World} {B:Nat} {v:Value} {gs:List LkI} (h:qA4 w B v gs) (hv:v ≠ .slice none 0 0):∃ g cap,v = .slice (some ⟨g,0,none⟩) gs.length cap:=by
 have h0:w.ownsRow B 98 4 v gs.length (qA3 gs):=h
 rcases h0.2 with ⟨h',_⟩ | ⟨g,cap,cur,h',_⟩
 ·exact absurd h' hv
 ·exact ⟨g,cap,h'⟩
theorem qA4.below {w w':World} {B:Nat} {v:Value} {gs:List LkI} (h:qA4 w B v gs) (hb:Below w.heap.size w w'):qA4 w' B v gs :=
 World.ownsRow.kept (row:=none) h ⟨hb.os,hb.tape,hb.output,hb.size,fun k hk _=>hb.block k hk⟩ (by cases v.ownBlock <;> simp)
theorem qA9 {w:World} {B B':Nat} {v:Value} {gs:List LkI} (h:qA4 w B v gs) (hb:B'≤B):qA4 w B' v gs:=by
 have h0:w.ownsRow B 98 4 v gs.length (qA3 gs):=h
 refine ⟨h0.1,?_⟩
 rcases h0.2 with h' | ⟨g,cap,cur,e,hg,rest⟩
 ·exact .inl h'
 ·exact .inr ⟨g,cap,cur,e,Nat.le_trans hb hg,rest⟩
theorem qV4 {w:World} {B:Nat} {v:Value} {es:List LkI} {x:LkI} (h:w.ownsRow B 98 4 v (es.length+1) (qA3 es++[.int .i64 x.e,.int .i64 x.c,.int .i64 x.p,.int .i64 x.f])):qA4 w B v (es++[x]):=by
 unfold qA4
 rw [List.length_append,qR3]
 exact h
theorem QC0 {w1 Z w':World} {B:Nat} {v:Value} {es:List LkI} (ho:qA4 Z B v es) (hb:Below B w1 Z) (hg:Z.grownBy w' v.ownBlock) (hB:B≤Z.heap.size):Below B w1 w':=by
 have h0:Z.ownsRow B 98 4 v es.length (qA3 es):=ho
 exact hb.grown hg hB (fun j hj=>(h0.lt j hj).1)
def LkV (w:World) (a:Option Addr) (zs:List LkI):Prop:=∀ k p,zs[k]? = some p→∃ g,a=some ⟨g,0,none⟩∧QC7 w g (k * 4) p
theorem LkV.below {w w':World} {a:Option Addr} {zs:List LkI} (h:LkV w a zs) (hb:Below w.heap.size w w'):LkV w' a zs:=fun k p e=>by
 obtain ⟨g,ha,h1⟩:=h k p e
 exact ⟨g,ha,h1.below hb (zL w ⟨g,k * 4,none⟩ h1.1)⟩
theorem LkV.isIn {w:World} {a:Option Addr} {n:Nat} {zs:List LkI} (hn:zs.length=n) (h:LkV w a zs):qK1 w a n zs:=by
 refine ⟨hn,fun hp=>?_⟩
 obtain ⟨g,ha,_⟩:=h 0 _ (List.getElem?_eq_getElem (by omega))
 refine ⟨g,0,ha,fun k x e=>?_⟩
 obtain ⟨g',ha',hx⟩:=h k x e
 rw [ha] at ha'
 cases ha'
 rw [Nat.zero_add]
 exact hx
theorem qA4.view {w:World} {B:Nat} {a:Option Addr} {n cap:Nat} {zs:List LkI} (h:qA4 w B (.slice a n cap) zs):LkV w a zs:=by
 intro k p e
 have hk:k < zs.length:=by
  by_cases q:k < zs.length
  ·exact q
  ·rw [List.getElem?_eq_none (by omega)] at e;cases e
 have h0:w.ownsRow B 98 4 (.slice a n cap) zs.length (qA3 zs):=h
 rcases h0.2 with ⟨h',h''⟩ | ⟨g,cap',cur,h',_⟩
 ·omega
 ·simp at h'
  obtain ⟨rfl,rfl,rfl⟩:=h'
  obtain ⟨f0,f1,f2,f3⟩:=QN2 zs k p e
  exact ⟨g,rfl,(h0.cellAt (k * 4) (by omega)).trans f0,(h0.cellAt (k * 4+1) (by omega)).trans f1,(h0.cellAt (k * 4+2) (by omega)).trans f2,(h0.cellAt (k * 4+3) (by omega)).trans f3⟩
theorem qA4.form {w:World} {B:Nat} {v:Value} {zs:List LkI} (h:qA4 w B v zs):(v = .slice none 0 0∧zs=[])∨∃ g cap,v = .slice (some ⟨g,0,none⟩) zs.length cap∧B≤g∧g < w.heap.size∧zs.length≤cap∧cap≤maxLen:=by
 have h0:w.ownsRow B 98 4 v zs.length (qA3 zs):=h
 rcases h0.2 with ⟨h',h''⟩ | ⟨g,cap',cur,h',hb,hg,hc,hm,_⟩
 ·exact .inl ⟨h',List.length_eq_zero_iff.1 h''⟩
 ·exact .inr ⟨g,cap',h',hb,(Array.getElem?_eq_some_iff.1 hg).1,hc,hm⟩
theorem qA4.slice {w:World} {B:Nat} {v:Value} {zs:List LkI} (h:qA4 w B v zs):∃ a cap,v = .slice a zs.length cap:=by
 rcases h.form with ⟨rfl,rfl⟩ | ⟨g,cap,rfl,_⟩
 ·exact ⟨none,0,rfl⟩
 ·exact ⟨_,_,rfl⟩
theorem qA4.alloc {w:World} {B:Nat} {v:Value} {zs:List LkI} (h:qA4 w B v zs) (o:Obj):qA4 (w.alloc o) B v zs:=World.ownsRow.alloc h o
theorem flatLk_set (a:List LkI) (k:Nat) (p:LkI):qA3 (a.set k p)=(((((qA3 a).set (k * 4) (.int .i64 p.e)).set (k * 4+1) (.int .i64 p.c)).set (k * 4+2) (.int .i64 p.p)).set (k * 4+3) (.int .i64 p.f)):=by
 induction a generalizing k with
 | nil=>simp [qA3]
 | cons q qs ih =>
  cases k with
  | zero=>simp [qA3]
  | succ k =>
   rw [show (k+1) * 4=k * 4+1+1+1+1 by omega]
   simp [qA3,ih]
theorem qA4.put {w:World} {B g cap:Nat} {zs:List LkI} {n:Nat} (hn:n=zs.length) (h:qA4 w B (.slice (some ⟨g,0,none⟩) n cap) zs) (j:Nat) (p:LkI) :
  qA4 ((((w.setCell ⟨g,j * 4,none⟩ (.int .i64 p.e)).setCell ⟨g,j * 4+1,none⟩ (.int .i64 p.c)).setCell ⟨g,j * 4+2,none⟩ (.int .i64 p.p)).setCell ⟨g,j * 4+3,none⟩ (.int .i64 p.f)) B (.slice (some ⟨g,0,none⟩) n cap) (zs.set j p)∧w.grownBy ((((w.setCell ⟨g,j * 4,none⟩ (.int .i64 p.e)).setCell ⟨g,j * 4+1,none⟩ (.int .i64 p.c)).setCell ⟨g,j * 4+2,none⟩ (.int .i64 p.p)).setCell ⟨g,j * 4+3,none⟩ (.int .i64 p.f)) (some g):=by
 subst hn
 have h0:w.ownsRow B 98 4 (.slice (some ⟨g,0,none⟩) zs.length cap) zs.length (qA3 zs):=h
 have h1:=h0.stored (j * 4) (.int .i64 p.e)
 have h2:=h1.1.stored (j * 4+1) (.int .i64 p.c)
 have h3:=h2.1.stored (j * 4+2) (.int .i64 p.p)
 have h4:=h3.1.stored (j * 4+3) (.int .i64 p.f)
 refine ⟨?_,qF9 (qF9 (qF9 h1.2 h2.2) h3.2) h4.2⟩
 show World.ownsRow _ B 98 4 _ (zs.set j p).length (qA3 (zs.set j p))
 rw [flatLk_set,List.length_set]
 exact h4.1
theorem qA4.cell {w:World} {B g cap:Nat} {zs:List LkI} {n:Nat} (hn:n=zs.length) (h:qA4 w B (.slice (some ⟨g,0,none⟩) n cap) zs) (j:Nat) (hj:j < n * 4):(∃ v,w.cell? ⟨g,j,none⟩=some v)∧w.frozen? ⟨g,j,none⟩=false:=by
 subst hn
 have h0:w.ownsRow B 98 4 (.slice (some ⟨g,0,none⟩) zs.length cap) zs.length (qA3 zs):=h
 exact ⟨⟨_,(h0.cellAt j hj).trans (List.getElem?_eq_getElem (by rw [qF4];exact hj))⟩,h0.frozenAt j⟩
theorem qJ2.below {w w':World} {g n:Nat} (h:qJ2 w g n) (hg:g < w.heap.size) (hb:Below w.heap.size w w'):qJ2 w' g n :=
 ⟨fun j hj=>by obtain ⟨v,e⟩:=h.1 j hj;exact ⟨v,(hb.cell (p:=⟨g,j,none⟩) hg).trans e⟩,fun j=>(hb.frozen (p:=⟨g,j,none⟩) hg).trans (h.2 j)⟩
theorem qJ2.grown {w w':World} {g n:Nat} {row:Option Nat} (h:qJ2 w g n) (hg:g < w.heap.size) (hr:w.grownBy w' row) (hne:some g≠row):qJ2 w' g n :=
 ⟨fun j hj=>by obtain ⟨v,e⟩:=h.1 j hj;exact ⟨v,hr.cell e hne⟩,fun j=>by
  have:=h.2 j
  unfold World.frozen? at this ⊢
  simp only at this ⊢
  rw [hr.block g hg hne]
  exact this⟩
theorem qJ2.set {w:World} {g n:Nat} (h:qJ2 w g n) (o:Nat) (v:Value):qJ2 (w.setCell ⟨g,o,none⟩ v) g n:=by
 refine ⟨fun j hj=>?_,fun j=>by simp only [World.frozen?_setCell];exact h.2 j⟩
 obtain ⟨u,e⟩:=h.1 j hj
 by_cases q:j=o
 ·subst q
  exact ⟨v,by simp [go_sem,e]⟩
 ·exact ⟨u,by rw [World.cell?_setCell_other (h:=fun e=>q (by have:=congrArg Addr.off e;simp at this;omega))];exact e⟩
theorem QL4 (g n cap:Nat) (k0:Int) (w:World) (hn:n≤1048576) (h0:0≤k0) (h1:k0≤100000000) (h:qJ2 w g n) :
  Calls Tryz.prog 44 #[.slice (some ⟨g,0,none⟩) n cap,.int .i64 k0] w fun e w'=>e = .returned (.int .i64 (k0+4 * (n:Int)))∧w.grownBy w' (some g):=by
 have HO:Hid (qJ2 w g n):=h
 clear h
 have hn':(n:Int)≤1048576:=by omega
 go_enter Tryz.func44,Tryz.ntmps44
 go_wp2
 go_loopw [1,5] (fun q i wr=>∃ (j:Nat),j≤n∧i = .int .i64 (j:Int)∧q = .int .i64 (k0+4 * (j:Int))∧qJ2 wr g n∧w.grownBy wr (some g))
  (fun _ i _=>n - (intOf i).toNat)
 case atStart=>exact ⟨0,Nat.zero_le _,rfl,by simp,HO.out,qM8 _ _⟩
 case round =>
  obtain ⟨j,hj,rfl,rfl,hroom,hgr⟩:=hrel
  have HG:Hid (qJ2 wr g n∧w.grownBy wr (some g)):=⟨hroom,hgr⟩
  by_cases hlt:j < n
  ·have hlt':(j:Int) < (n:Int):=by omega
   obtain ⟨v0,c0⟩:=hroom.1 (j * 4) (by omega)
   have f0:=hroom.2 (j * 4)
   obtain ⟨v1,c1⟩:=hroom.1 (j * 4+1) (by omega)
   have f1:=hroom.2 (j * 4+1)
   obtain ⟨v2,c2⟩:=hroom.1 (j * 4+2) (by omega)
   have f2:=hroom.2 (j * 4+2)
   obtain ⟨v3,c3⟩:=hroom.1 (j * 4+3) (by omega)
   have f3:=hroom.2 (j * 4+3)
   clear hroom hgr
   go_wp2
   refine ⟨⟨j+1,by omega,by go_num,?_,?_,?_⟩,by simp [intOf];omega⟩
   ·congr 1;omega
   ·exact ((((HG.out.1.set _ _).set _ _).set _ _).set _ _)
   ·exact (qF9 (qF9 (qF9 (qF9 HG.out.2 (qJ5 _ _ _ _)) (qJ5 _ _ _ _)) (qJ5 _ _ _ _)) (qJ5 _ _ _ _))
  ·have hjn:j=n:=by omega
   subst hjn
   go_wp2
   go_ret
   exact ⟨rfl,hgr⟩
theorem qV3 {W:World} {B:Nat} {a:Option Addr} {n cap:Nat} {ys:List LkI} (h:qA4 W B (.slice a n cap) ys):∀ q,(Value.slice a n cap).ownBlock=some q→B≤q∧q < W.heap.size:=by
 have h0:W.ownsRow B 98 4 (.slice a n cap) ys.length (qA3 ys):=h
 exact fun q e=>h0.lt q e
theorem QR2 {W W':World} {B q:Nat} {a:Option Addr} {n cap:Nat} {ys:List LkI} (h:qA4 W B (.slice a n cap) ys) (hg:W.grownBy W' (some q)) (hq:q < B):qA4 W' B (.slice a n cap) ys:=by
 refine World.ownsRow.kept h hg ?_
 rcases a with _ | ⟨g,o,sp⟩
 ·rcases h.form with ⟨h1,_⟩ | ⟨g',cap',h1,h2,_⟩
  ·simp at h1;obtain ⟨rfl,rfl⟩:=h1;exact .inl rfl
  ·simp at h1
 ·rcases h.form with ⟨h1,_⟩ | ⟨g',cap',h1,h2,_⟩
  ·simp at h1
  ·simp at h1
   obtain ⟨⟨rfl,rfl,rfl⟩,_⟩:=h1
   exact .inr (by simp [Value.ownBlock];omega)

end Go.Proofs.YtlhgjackapdmbaaGreatDoor
