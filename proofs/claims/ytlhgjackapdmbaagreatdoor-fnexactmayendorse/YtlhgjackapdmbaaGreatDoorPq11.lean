/- Contracts. -/
import Derived.Test.YtlhgjackapdmbaaGreatDoorPq09
import Derived.Test.YtlhgjackapdmbaaGreatDoorPq08
import Derived.Deep.AppendLies
namespace Go.Proofs.YtlhgjackapdmbaaGreatDoor
set_option maxRecDepth 100000
set_option maxHeartbeats 8000000
open Go.RowKit
set_option linter.unusedVariables false
set_option linter.unusedSimpArgs false

def Box2 (w:World) (B:Nat) (x y:Value):Prop:=w.cell? ⟨B,0,none⟩=some x∧w.cell? ⟨B,1,none⟩=some y
theorem Box2.lt {w:World} {B:Nat} {x y:Value} (h:Box2 w B x y):B < w.heap.size:=zL w ⟨B,0,none⟩ h.1
theorem Box2.below {w w':World} {B:Nat} {x y:Value} (h:Box2 w B x y) (hb:Below w.heap.size w w'):Box2 w' B x y :=
 ⟨(hb.cell (p:=⟨B,0,none⟩) h.lt).trans h.1,(hb.cell (p:=⟨B,1,none⟩) h.lt).trans h.2⟩
theorem Box2.grown {w w':World} {B:Nat} {x y:Value} {row:Option Nat} (h:Box2 w B x y) (hg:w.grownBy w' row) (hne:some B≠row):Box2 w' B x y :=
 ⟨hg.cell h.1 hne,hg.cell h.2 hne⟩
theorem Box2.new (w:World) (x y:Value) (t:TypeId):Box2 (w.alloc (.cells #[x,y] t)) w.heap.size x y:=⟨by simp,by simp⟩

def qA1:List LkI→List Value
 | []=>[]
 | p::ps => .int .i64 p.e :: .int .i64 p.c :: .int .i64 p.p :: .int .i64 p.f::qA1 ps
theorem qP9 (a b:List LkI):qA1 (a++b)=qA1 a++qA1 b:=by
 induction a with
 | nil=>rfl
 | cons p ps ih=>simp [qA1,ih]
theorem qF5 (a:List LkI):(qA1 a).length=a.length * 4:=by
 induction a with
 | nil=>rfl
 | cons p ps ih=>simp [qA1,ih];omega
theorem QL4:∀ (a:List LkI) (k:Nat) (p:LkI),a[k]? = some p→(qA1 a)[k * 4]? = some (.int .i64 p.e)∧(qA1 a)[k * 4+1]? = some (.int .i64 p.c)∧(qA1 a)[k * 4+2]? = some (.int .i64 p.p)∧(qA1 a)[k * 4+3]? = some (.int .i64 p.f)
 | [],_,_,h=>by simp at h
 | q::qs,0,p,h=>by simp at h;subst h;exact ⟨rfl,rfl,rfl,rfl⟩
 | q::qs,k+1,p,h=>by
  have:=QL4 qs k p (by simpa using h)
  rw [show (k+1) * 4=k * 4+1+1+1+1 by omega,show k * 4+1+1+1+1+1=(k * 4+1)+1+1+1+1 by omega,show k * 4+1+1+1+1+2=(k * 4+2)+1+1+1+1 by omega,show k * 4+1+1+1+1+3=(k * 4+3)+1+1+1+1 by omega]
  simpa [qA1] using this
theorem qN4 (a:List LkI):∀ u∈qA1 a,u.oneCell'=true:=by
 induction a with
 | nil=>simp [qA1]
 | cons p ps ih =>
  intro u hu
  simp only [qA1,List.mem_cons] at hu
  rcases hu with rfl | rfl | rfl | rfl | hu
  ·rfl
  ·rfl
  ·rfl
  ·rfl
  ·exact ih u hu
def qB0 (w:World) (B:Nat) (v:Value) (gs:List LkI):Prop:=w.ownsRow B 98 4 v gs.length (qA1 gs)
theorem qB0.shape {w:World} {B:Nat} {v:Value} {gs:List LkI} (h:qB0 w B v gs) (hv:v ≠ .slice none 0 0):∃ g cap,v = .slice (some ⟨g,0,none⟩) gs.length cap:=by
 have h0:w.ownsRow B 98 4 v gs.length (qA1 gs):=h
 rcases h0.2 with ⟨h',_⟩ | ⟨g,cap,cur,h',_⟩
 ·exact absurd h' hv
 ·exact ⟨g,cap,h'⟩
theorem qB0.below {w w':World} {B:Nat} {v:Value} {gs:List LkI} (h:qB0 w B v gs) (hb:Below w.heap.size w w'):qB0 w' B v gs :=
 World.ownsRow.kept (row:=none) h ⟨hb.os,hb.tape,hb.output,hb.size,fun k hk _=>hb.block k hk⟩ (by cases v.ownBlock <;> simp)
theorem qA8 {w:World} {B B':Nat} {v:Value} {gs:List LkI} (h:qB0 w B v gs) (hb:B'≤B):qB0 w B' v gs:=by
 have h0:w.ownsRow B 98 4 v gs.length (qA1 gs):=h
 refine ⟨h0.1,?_⟩
 rcases h0.2 with h' | ⟨g,cap,cur,e,hg,rest⟩
 ·exact .inl h'
 ·exact .inr ⟨g,cap,cur,e,Nat.le_trans hb hg,rest⟩
theorem qT8 {w:World} {B:Nat} {v:Value} {es:List LkI} {x:LkI} (h:w.ownsRow B 98 4 v (es.length+1) (qA1 es++[.int .i64 x.e,.int .i64 x.c,.int .i64 x.p,.int .i64 x.f])):qB0 w B v (es++[x]):=by
 unfold qB0
 rw [List.length_append,qP9]
 exact h
theorem QA3 {w1 Z w':World} {B:Nat} {v:Value} {es:List LkI} (ho:qB0 Z B v es) (hb:Below B w1 Z) (hg:Z.grownBy w' v.ownBlock) (hB:B≤Z.heap.size):Below B w1 w':=by
 have h0:Z.ownsRow B 98 4 v es.length (qA1 es):=ho
 exact hb.grown hg hB (fun j hj=>(h0.lt j hj).1)
def LkV (w:World) (a:Option Addr) (zs:List LkI):Prop:=∀ k p,zs[k]? = some p→∃ g,a=some ⟨g,0,none⟩∧QB0 w g (k * 4) p
theorem LkV.below {w w':World} {a:Option Addr} {zs:List LkI} (h:LkV w a zs) (hb:Below w.heap.size w w'):LkV w' a zs:=fun k p e=>by
 obtain ⟨g,ha,h1⟩:=h k p e
 exact ⟨g,ha,h1.below hb (zL w ⟨g,k * 4,none⟩ h1.1)⟩
theorem LkV.isIn {w:World} {a:Option Addr} {n:Nat} {zs:List LkI} (hn:zs.length=n) (h:LkV w a zs):qJ0 w a n zs:=by
 refine ⟨hn,fun hp=>?_⟩
 obtain ⟨g,ha,_⟩:=h 0 _ (List.getElem?_eq_getElem (by omega))
 refine ⟨g,0,ha,fun k x e=>?_⟩
 obtain ⟨g',ha',hx⟩:=h k x e
 rw [ha] at ha'
 cases ha'
 rw [Nat.zero_add]
 exact hx
theorem qB0.view {w:World} {B:Nat} {a:Option Addr} {n cap:Nat} {zs:List LkI} (h:qB0 w B (.slice a n cap) zs):LkV w a zs:=by
 intro k p e
 have hk:k < zs.length:=by
  by_cases q:k < zs.length
  ·exact q
  ·rw [List.getElem?_eq_none (by omega)] at e;cases e
 have h0:w.ownsRow B 98 4 (.slice a n cap) zs.length (qA1 zs):=h
 rcases h0.2 with ⟨h',h''⟩ | ⟨g,cap',cur,h',_⟩
 ·omega
 ·simp at h'
  obtain ⟨rfl,rfl,rfl⟩:=h'
  obtain ⟨f0,f1,f2,f3⟩:=QL4 zs k p e
  exact ⟨g,rfl,(h0.cellAt (k * 4) (by omega)).trans f0,(h0.cellAt (k * 4+1) (by omega)).trans f1,(h0.cellAt (k * 4+2) (by omega)).trans f2,(h0.cellAt (k * 4+3) (by omega)).trans f3⟩
theorem qB0.form {w:World} {B:Nat} {v:Value} {zs:List LkI} (h:qB0 w B v zs):(v = .slice none 0 0∧zs=[])∨∃ g cap,v = .slice (some ⟨g,0,none⟩) zs.length cap∧B≤g∧g < w.heap.size∧zs.length≤cap∧cap≤maxLen:=by
 have h0:w.ownsRow B 98 4 v zs.length (qA1 zs):=h
 rcases h0.2 with ⟨h',h''⟩ | ⟨g,cap',cur,h',hb,hg,hc,hm,_⟩
 ·exact .inl ⟨h',List.length_eq_zero_iff.1 h''⟩
 ·exact .inr ⟨g,cap',h',hb,(Array.getElem?_eq_some_iff.1 hg).1,hc,hm⟩
theorem qB0.slice {w:World} {B:Nat} {v:Value} {zs:List LkI} (h:qB0 w B v zs):∃ a cap,v = .slice a zs.length cap:=by
 rcases h.form with ⟨rfl,rfl⟩ | ⟨g,cap,rfl,_⟩
 ·exact ⟨none,0,rfl⟩
 ·exact ⟨_,_,rfl⟩
theorem qB0.alloc {w:World} {B:Nat} {v:Value} {zs:List LkI} (h:qB0 w B v zs) (o:Obj):qB0 (w.alloc o) B v zs:=World.ownsRow.alloc h o
theorem qO6.below {w w':World} {g n:Nat} (h:qO6 w g n) (hg:g < w.heap.size) (hb:Below w.heap.size w w'):qO6 w' g n :=
 ⟨fun j hj=>by obtain ⟨v,e⟩:=h.1 j hj;exact ⟨v,(hb.cell (p:=⟨g,j,none⟩) hg).trans e⟩,fun j=>(hb.frozen (p:=⟨g,j,none⟩) hg).trans (h.2 j)⟩
theorem qO6.grown {w w':World} {g n:Nat} {row:Option Nat} (h:qO6 w g n) (hg:g < w.heap.size) (hr:w.grownBy w' row) (hne:some g≠row):qO6 w' g n :=
 ⟨fun j hj=>by obtain ⟨v,e⟩:=h.1 j hj;exact ⟨v,hr.cell e hne⟩,fun j=>by
  have:=h.2 j
  unfold World.frozen? at this ⊢
  simp only at this ⊢
  rw [hr.block g hg hne]
  exact this⟩
theorem QI9 {W:World} {B:Nat} {a:Option Addr} {n cap:Nat} {ys:List LkI} (h:qB0 W B (.slice a n cap) ys):∀ q,(Value.slice a n cap).ownBlock=some q→B≤q∧q < W.heap.size:=by
 have h0:W.ownsRow B 98 4 (.slice a n cap) ys.length (qA1 ys):=h
 exact fun q e=>h0.lt q e
theorem QO9 {W W':World} {B q:Nat} {a:Option Addr} {n cap:Nat} {ys:List LkI} (h:qB0 W B (.slice a n cap) ys) (hg:W.grownBy W' (some q)) (hq:q < B):qB0 W' B (.slice a n cap) ys:=by
 refine World.ownsRow.kept h hg ?_
 rcases a with _ | ⟨g,o,sp⟩
 ·rcases h.form with ⟨h1,_⟩ | ⟨g',cap',h1,h2,_⟩
  ·simp at h1;obtain ⟨rfl,rfl⟩:=h1;exact .inl rfl
  ·simp at h1
 ·rcases h.form with ⟨h1,_⟩ | ⟨g',cap',h1,h2,_⟩
  ·simp at h1
  ·simp at h1
   obtain ⟨⟨rfl,rfl,rfl⟩,_⟩:=h1
   exact .inr (by simp [Value.ownBlock];omega)

end Go.Proofs.YtlhgjackapdmbaaGreatDoor
