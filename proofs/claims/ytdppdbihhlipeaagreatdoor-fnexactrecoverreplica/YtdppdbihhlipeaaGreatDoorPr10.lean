/- Contracts. -/
import Derived.Deep.AppendLies
import Derived.Test.YtdppdbihhlipeaaGreatDoorPr08
namespace Go.Proofs.YtdppdbihhlipeaaGreatDoor
set_option maxRecDepth 100000
set_option maxHeartbeats 8000000
open Go.RowKit
set_option linter.unusedVariables false
set_option linter.unusedSimpArgs false

def qBU (w:World) (B:Nat) (x y:Value):Prop:=w.cell? ⟨B,0,none⟩=some x/\w.cell? ⟨B,1,none⟩=some y
theorem qBU.lt {w:World} {B:Nat} {x y:Value} (h:qBU w B x y):B < w.heap.size:=zL w ⟨B,0,none⟩ h.1
theorem qBU.below {w w':World} {B:Nat} {x y:Value} (h:qBU w B x y) (hb:Below w.heap.size w w'):qBU w' B x y :=
 ⟨(hb.cell (p:=⟨B,0,none⟩) h.lt).trans h.1,(hb.cell (p:=⟨B,1,none⟩) h.lt).trans h.2⟩
theorem qBU.grown {w w':World} {B:Nat} {x y:Value} {row:Option Nat} (h:qBU w B x y) (hg:w.grownBy w' row) (hne:some B≠row):qBU w' B x y :=
 ⟨hg.cell h.1 hne,hg.cell h.2 hne⟩
theorem qBU.new (w:World) (x y:Value) (t:TypeId):qBU (w.alloc (.cells #[x,y] t)) w.heap.size x y:=⟨by simp,by simp⟩

def qA3:List LkI->List Value
 | []=>[]
 | p::ps => .int .i64 p.e :: .int .i64 p.c :: .int .i64 p.p :: .int .i64 p.f::qA3 ps
theorem qQ6 (a b:List LkI):qA3 (a++b)=qA3 a++qA3 b:=by
 induction a with
 | nil=>rfl
 | cons p ps ih=>simp [qA3,ih]
theorem qF4 (a:List LkI):(qA3 a).length=a.length * 4:=by
 induction a with
 | nil=>rfl
 | cons p ps ih=>simp [qA3,ih];omega
theorem QO9:∀ (a:List LkI) (k:Nat) (p:LkI),a[k]? = some p->(qA3 a)[k * 4]? = some (.int .i64 p.e)/\(qA3 a)[k * 4+1]? = some (.int .i64 p.c)/\(qA3 a)[k * 4+2]? = some (.int .i64 p.p)/\(qA3 a)[k * 4+3]? = some (.int .i64 p.f)
 | [],_,_,h=>by simp at h
 | q::qs,0,p,h=>by simp at h;subst h;exact ⟨rfl,rfl,rfl,rfl⟩
 | q::qs,k+1,p,h=>by
  have:=QO9 qs k p (by simpa using h);rw [show (k+1) * 4=k * 4+1+1+1+1 by omega,show k * 4+1+1+1+1+1=(k * 4+1)+1+1+1+1 by omega,show k * 4+1+1+1+1+2=(k * 4+2)+1+1+1+1 by omega,show k * 4+1+1+1+1+3=(k * 4+3)+1+1+1+1 by omega];simpa [qA3] using this
theorem qO4 (a:List LkI):∀ u∈qA3 a,u.oneCell'=true:=by
 induction a with
 | nil=>simp [qA3]
 | cons p ps ih =>
  intro u hu;simp only [qA3,List.mem_cons] at hu;rcases hu with rfl | rfl | rfl | rfl | hu
  ·rfl
  ·rfl
  ·rfl
  ·rfl
  ·exact ih u hu
def qA7 (w:World) (B:Nat) (v:Value) (gs:List LkI):Prop:=w.ownsRow B 103 4 v gs.length (qA3 gs)
theorem qA7.shape {w:World} {B:Nat} {v:Value} {gs:List LkI} (h:qA7 w B v gs) (hv:v ≠ .slice none 0 0):∃ g cap,v = .slice (some ⟨g,0,none⟩) gs.length cap:=by
 have h0:w.ownsRow B 103 4 v gs.length (qA3 gs):=h;rcases h0.2 with ⟨h',_⟩ | ⟨g,cap,cur,h',_⟩
 ·exact absurd h' hv
 ·exact ⟨g,cap,h'⟩
theorem qA7.below {w w':World} {B:Nat} {v:Value} {gs:List LkI} (h:qA7 w B v gs) (hb:Below w.heap.size w w'):qA7 w' B v gs :=
 World.ownsRow.kept (row:=none) h ⟨hb.os,hb.tape,hb.output,hb.size,fun k hk _=>hb.block k hk⟩ (by cases v.ownBlock <;> simp)
theorem qB0 {w:World} {B B':Nat} {v:Value} {gs:List LkI} (h:qA7 w B v gs) (hb:B'<=B):qA7 w B' v gs:=by
 have h0:w.ownsRow B 103 4 v gs.length (qA3 gs):=h;refine ⟨h0.1,?_⟩;rcases h0.2 with h' | ⟨g,cap,cur,e,hg,rest⟩
 ·exact .inl h'
 ·exact .inr ⟨g,cap,cur,e,Nat.le_trans hb hg,rest⟩
theorem qU9 {w:World} {B:Nat} {v:Value} {es:List LkI} {x:LkI} (h:w.ownsRow B 103 4 v (es.length+1) (qA3 es++[.int .i64 x.e,.int .i64 x.c,.int .i64 x.p,.int .i64 x.f])):qA7 w B v (es++[x]):=by
 unfold qA7;rw [List.length_append,qQ6];exact h
theorem QB3 {w1 Z w':World} {B:Nat} {v:Value} {es:List LkI} (ho:qA7 Z B v es) (hb:Below B w1 Z) (hg:Z.grownBy w' v.ownBlock) (hB:B<=Z.heap.size):Below B w1 w':=by
 have h0:Z.ownsRow B 103 4 v es.length (qA3 es):=ho;exact hb.grown hg hB (fun j hj=>(h0.lt j hj).1)
def LkV (w:World) (a:Option Addr) (zs:List LkI):Prop:=∀ k p,zs[k]? = some p->∃ g,a=some ⟨g,0,none⟩/\QE9 w g (k * 4) p
theorem LkV.below {w w':World} {a:Option Addr} {zs:List LkI} (h:LkV w a zs) (hb:Below w.heap.size w w'):LkV w' a zs:=fun k p e=>by
 obtain ⟨g,ha,h1⟩:=h k p e;exact ⟨g,ha,h1.below hb (zL w ⟨g,k * 4,none⟩ h1.1)⟩
theorem LkV.isIn {w:World} {a:Option Addr} {n:Nat} {zs:List LkI} (hn:zs.length=n) (h:LkV w a zs):qK8 w a n zs:=by
 refine ⟨hn,fun hp=>?_⟩;obtain ⟨g,ha,_⟩:=h 0 _ (List.getElem?_eq_getElem (by omega));refine ⟨g,0,ha,fun k x e=>?_⟩;obtain ⟨g',ha',hx⟩:=h k x e;rw [ha] at ha';cases ha';rw [Nat.zero_add];exact hx
theorem qA7.view {w:World} {B:Nat} {a:Option Addr} {n cap:Nat} {zs:List LkI} (h:qA7 w B (.slice a n cap) zs):LkV w a zs:=by
 intro k p e
 have hk:k < zs.length:=by
  by_cases q:k < zs.length
  ·exact q
  ·rw [List.getElem?_eq_none (by omega)] at e;cases e
 have h0:w.ownsRow B 103 4 (.slice a n cap) zs.length (qA3 zs):=h;rcases h0.2 with ⟨h',h''⟩ | ⟨g,cap',cur,h',_⟩
 ·omega
 ·simp at h';obtain ⟨rfl,rfl,rfl⟩:=h';obtain ⟨f0,f1,f2,f3⟩:=QO9 zs k p e;exact ⟨g,rfl,(h0.cellAt (k * 4) (by omega)).trans f0,(h0.cellAt (k * 4+1) (by omega)).trans f1,(h0.cellAt (k * 4+2) (by omega)).trans f2,(h0.cellAt (k * 4+3) (by omega)).trans f3⟩
theorem qA7.form {w:World} {B:Nat} {v:Value} {zs:List LkI} (h:qA7 w B v zs):(v = .slice none 0 0/\zs=[])\/∃ g cap,v = .slice (some ⟨g,0,none⟩) zs.length cap/\B<=g/\g < w.heap.size/\zs.length<=cap/\cap<=maxLen:=by
 have h0:w.ownsRow B 103 4 v zs.length (qA3 zs):=h;rcases h0.2 with ⟨h',h''⟩ | ⟨g,cap',cur,h',hb,hg,hc,hm,_⟩
 ·exact .inl ⟨h',List.length_eq_zero_iff.1 h''⟩
 ·exact .inr ⟨g,cap',h',hb,(Array.getElem?_eq_some_iff.1 hg).1,hc,hm⟩
theorem qA7.slice {w:World} {B:Nat} {v:Value} {zs:List LkI} (h:qA7 w B v zs):∃ a cap,v = .slice a zs.length cap:=by
 rcases h.form with ⟨rfl,rfl⟩ | ⟨g,cap,rfl,_⟩
 ·exact ⟨none,0,rfl⟩
 ·exact ⟨_,_,rfl⟩
theorem qA7.alloc {w:World} {B:Nat} {v:Value} {zs:List LkI} (h:qA7 w B v zs) (o:Obj):qA7 (w.alloc o) B v zs:=World.ownsRow.alloc h o
theorem qFL (a:List LkI) (k:Nat) (p:LkI):qA3 (a.set k p)=(((((qA3 a).set (k * 4) (.int .i64 p.e)).set (k * 4+1) (.int .i64 p.c)).set (k * 4+2) (.int .i64 p.p)).set (k * 4+3) (.int .i64 p.f)):=by
 induction a generalizing k with
 | nil=>simp [qA3]
 | cons q qs ih =>
  cases k with
  | zero=>simp [qA3]
  | succ k =>
   rw [show (k+1) * 4=k * 4+1+1+1+1 by omega];simp [qA3,ih]
theorem qA7.put {w:World} {B g cap:Nat} {zs:List LkI} {n:Nat} (hn:n=zs.length) (h:qA7 w B (.slice (some ⟨g,0,none⟩) n cap) zs) (j:Nat) (p:LkI) :
  qA7 ((((w.setCell ⟨g,j * 4,none⟩ (.int .i64 p.e)).setCell ⟨g,j * 4+1,none⟩ (.int .i64 p.c)).setCell ⟨g,j * 4+2,none⟩ (.int .i64 p.p)).setCell ⟨g,j * 4+3,none⟩ (.int .i64 p.f)) B (.slice (some ⟨g,0,none⟩) n cap) (zs.set j p)/\w.grownBy ((((w.setCell ⟨g,j * 4,none⟩ (.int .i64 p.e)).setCell ⟨g,j * 4+1,none⟩ (.int .i64 p.c)).setCell ⟨g,j * 4+2,none⟩ (.int .i64 p.p)).setCell ⟨g,j * 4+3,none⟩ (.int .i64 p.f)) (some g):=by
 subst hn;have h0:w.ownsRow B 103 4 (.slice (some ⟨g,0,none⟩) zs.length cap) zs.length (qA3 zs):=h;have h1:=h0.stored (j * 4) (.int .i64 p.e);have h2:=h1.1.stored (j * 4+1) (.int .i64 p.c);have h3:=h2.1.stored (j * 4+2) (.int .i64 p.p);have h4:=h3.1.stored (j * 4+3) (.int .i64 p.f);refine ⟨?_,qM2 (qM2 (qM2 h1.2 h2.2) h3.2) h4.2⟩;show World.ownsRow _ B 103 4 _ (zs.set j p).length (qA3 (zs.set j p))
 rw [qFL,List.length_set];exact h4.1
theorem qA7.cell {w:World} {B g cap:Nat} {zs:List LkI} {n:Nat} (hn:n=zs.length) (h:qA7 w B (.slice (some ⟨g,0,none⟩) n cap) zs) (j:Nat) (hj:j < n * 4):(∃ v,w.cell? ⟨g,j,none⟩=some v)/\w.frozen? ⟨g,j,none⟩=false:=by
 subst hn;have h0:w.ownsRow B 103 4 (.slice (some ⟨g,0,none⟩) zs.length cap) zs.length (qA3 zs):=h;exact ⟨⟨_,(h0.cellAt j hj).trans (List.getElem?_eq_getElem (by rw [qF4];exact hj))⟩,h0.frozenAt j⟩
theorem qY4 {W:World} {B:Nat} {a:Option Addr} {n cap:Nat} {ys:List LkI} (h:qA7 W B (.slice a n cap) ys):∀ q,(Value.slice a n cap).ownBlock=some q->B<=q/\q < W.heap.size:=by
 have h0:W.ownsRow B 103 4 (.slice a n cap) ys.length (qA3 ys):=h;exact fun q e=>h0.lt q e
theorem QT0 {W W':World} {B q:Nat} {a:Option Addr} {n cap:Nat} {ys:List LkI} (h:qA7 W B (.slice a n cap) ys) (hg:W.grownBy W' (some q)) (hq:q < B):qA7 W' B (.slice a n cap) ys:=by
 refine World.ownsRow.kept h hg ?_;rcases a with _ | ⟨g,o,sp⟩
 ·rcases h.form with ⟨h1,_⟩ | ⟨g',cap',h1,h2,_⟩
  ·simp at h1;obtain ⟨rfl,rfl⟩:=h1;exact .inl rfl
  ·simp at h1
 ·rcases h.form with ⟨h1,_⟩ | ⟨g',cap',h1,h2,_⟩
  ·simp at h1
  ·simp at h1;obtain ⟨⟨rfl,rfl,rfl⟩,_⟩:=h1;exact .inr (by simp [Value.ownBlock];omega)

theorem qAn (s p:Int) (h0:0<=s) (h1:s<=15) (p0:1<=p) (p1:p<=4) (w:World) :
  Calls Tryz.prog 188 #[.int .i64 s,.int .i64 p] w fun e w'=>e = .returned (.bool (qI5 s p))/\w=w':=by
 have hp:p=1\/p=2\/p=3\/p=4:=by omega
 rcases hp with rfl | rfl | rfl | rfl
 ·have e1:=qP6 s 1 h0 (by omega) (by omega) (by omega);simp at e1;go_enter Tryz.func188,Tryz.ntmps188;go_wp2;go_ret;exact ⟨rfl,rfl⟩
 ·have e1:=qP6 s 2 h0 (by omega) (by omega) (by omega);simp at e1;go_enter Tryz.func188,Tryz.ntmps188;go_wp2;go_ret;exact ⟨rfl,rfl⟩
 ·have e1:=qP6 s 3 h0 (by omega) (by omega) (by omega);simp at e1;go_enter Tryz.func188,Tryz.ntmps188;go_wp2;go_ret;exact ⟨rfl,rfl⟩
 ·have e1:=qP6 s 4 h0 (by omega) (by omega) (by omega);simp at e1;go_enter Tryz.func188,Tryz.ntmps188;go_wp2;go_ret;exact ⟨rfl,rfl⟩
theorem qLz:∀ n:Fin 16,∀ k:Fin 4,(bits .and .i64 (((n.val:Nat):Int) / ((2 ^ k.val:Nat):Int)) 1==1)=n.val.testBit k.val:=by
 decide +kernel
theorem qDq (s p:Int) (h0:0<=s) (h1:s<=15) (p0:1<=p) (p1:p<=4):(bits .and .i64 (s / ((2 ^ (p - 1).toNat:Nat):Int)) 1==1)=qI5 s p:=by
 obtain ⟨n,rfl⟩:=Int.eq_ofNat_of_zero_le h0;have:=qLz ⟨n,by omega⟩ ⟨(p - 1).toNat,by omega⟩;simpa [qI5] using this
theorem qJq (s p:Int) (h0:0<=s) (h1:s<=15) (p0:1<=p) (p1:p<=4) (w:World) :
  Calls Tryz.prog 130 #[.int .i64 s,.int .i64 p] w fun e w'=>e = .returned (.bool (qI5 s p))/\w=w':=by
 have hp:p=1\/p=2\/p=3\/p=4:=by omega
 rcases hp with rfl | rfl | rfl | rfl
 ·have e1:Hid ((bits .and .i64 s 1==1)=qI5 s 1):=by have:=qDq s 1 h0 h1 (by omega) (by omega);simp at this;exact this
  go_enter Tryz.func130,Tryz.ntmps130;go_wp2;go_ret;exact ⟨by rw [<- e1.out];rfl,rfl⟩
 ·have e1:Hid ((bits .and .i64 (s / 2) 1==1)=qI5 s 2):=by have:=qDq s 2 h0 h1 (by omega) (by omega);simp at this;exact this
  go_enter Tryz.func130,Tryz.ntmps130;go_wp2;go_ret;exact ⟨by rw [<- e1.out];rfl,rfl⟩
 ·have e1:Hid ((bits .and .i64 (s / 4) 1==1)=qI5 s 3):=by have:=qDq s 3 h0 h1 (by omega) (by omega);simp at this;exact this
  go_enter Tryz.func130,Tryz.ntmps130;go_wp2;go_ret;exact ⟨by rw [<- e1.out];rfl,rfl⟩
 ·have e1:Hid ((bits .and .i64 (s / 8) 1==1)=qI5 s 4):=by have:=qDq s 4 h0 h1 (by omega) (by omega);simp at this;exact this
  go_enter Tryz.func130,Tryz.ntmps130;go_wp2;go_ret;exact ⟨by rw [<- e1.out];rfl,rfl⟩
def qMK (zs:List Int) (a b:Int):Bool:=zs.any (fun c=>qI5 c a&&qI5 c b)
def qJw (zs:List Int) (a b:Int):Bool:=(a != b)&&qMK zs a b
def qJv (zs:List Int) (a b:Int):Bool:=(qG6 zs==0)&&(inR a 1 4&&(inR b 1 4&&qJw zs a b))
theorem qMJ {zs:List Int} {k:Nat} {x:Int} (h:∀ x∈zs,inR x 0 15=true) (hx:zs[k]? = some x):0<=x/\x<=15:=(qE7 _ _ _).1 (h x (List.mem_of_getElem? hx))

def qG3 (e f:Int) (k:Nat) (ps:List Int):List LkI:=ps.map (fun p=>(⟨e,(k:Int),p,f⟩:LkI))
def qS0 (zs:List Int) (e f s:Int) (k:Nat):List LkI:=if qI5 (zs[k]?.getD 0) f=true then qG3 e f k (qB3 s 8) else []
def qB4 (zs:List Int) (e f s:Int):Nat->List LkI
 | 0=>[]
 | k+1=>qB4 zs e f s k++qS0 zs e f s k
theorem qCC (zs:List Int) (e f s:Int) (k:Nat):(qS0 zs e f s k).length<=8:=by
 unfold qS0;split
 ·simpa [qG3] using qY7 s 8
 ·simp
theorem qV0 (zs:List Int) (e f s:Int):∀ k,(qB4 zs e f s k).length<=k * 8
 | 0=>by simp [qB4]
 | k+1=>by
  have h1:=qV0 zs e f s k;have h2:=qCC zs e f s k;simp only [qB4,List.length_append];omega
def qE5 (zs:List Int) (e f s:Int):Int:=if qG6 zs=0 then (if (inR e 1 9&&(inR f 1 4&&inR s 0 255))=true then 0 else 3) else qG6 zs
theorem QM5 {zs:List Int} {e f s:Int} (h:qE5 zs e f s=0):qG6 zs=0/\inR e 1 9=true/\inR f 1 4=true/\inR s 0 255=true:=by
 unfold qE5 at h;split at h
 ·rename_i q;split at h
  ·rename_i q2;simp only [Bool.and_eq_true] at q2;exact ⟨q,q2.1,q2.2.1,q2.2.2⟩
  ·cases h
 ·exact absurd h (by assumption)
theorem qGd {zs:List Int} {e f s:Int} (h0:qG6 zs=0) (h1:inR e 1 9=true) (h2:inR f 1 4=true) (h3:inR s 0 255=true):qE5 zs e f s=0:=by
 simp [qE5,h0,h1,h2,h3]
theorem qBL (W:World) (b:Nat) (hb:b=W.heap.size) (u0 u1 u2 u3:Value) (T:TypeId):∀ j u,[u0,u1,u2,u3][j]? = some u->(W.alloc (.cells #[u0,u1,u2,u3] T)).cell? ((⟨b,0,none⟩:Addr).add j)=some u:=by
 subst hb;intro j u hj;match j,hj with
 | 0,hj=>simp at hj;subst hj;simp [Addr.add]
 | 1,hj=>simp at hj;subst hj;simp [Addr.add]
 | 2,hj=>simp at hj;subst hj;simp [Addr.add]
 | 3,hj=>simp at hj;subst hj;simp [Addr.add]
theorem qIm {w:World} {B B' gl m cl:Nat} {v:Value} {gs:List LkI} {xs:List Value} (h:qA7 w B v gs) (k:w.ownsRow B' 2 1 (.slice (some ⟨gl,0,none⟩) m cl) m xs):v.ownBlock≠some gl:=by
 intro e;have h0:w.ownsRow B 103 4 v gs.length (qA3 gs):=h;rcases h0.2 with ⟨h',_⟩ | ⟨g,cap,cur,h',_,hg,_⟩
 ·rw [h'] at e;cases e
 ·rw [h'] at e;simp [Value.ownBlock] at e;subst e;rcases k.2 with ⟨k',_⟩ | ⟨g',cap',cur',k',_,kg,_⟩
  ·cases k'
  ·simp at k';obtain ⟨rfl,_⟩:=k';rw [hg] at kg;simp at kg
theorem qJE {w:World} {B gl n c:Nat} {L:List Int} (h:w.ownsRow B 2 1 (.slice (some ⟨gl,0,none⟩) n c) n (L.map (Value.int .i64))) {k:Nat} {x:Int} (hx:L[k]? = some x) (hk:k < n):w.cell? ⟨gl,k,none⟩=some (.int .i64 x):=by
 rw [h.cellAt k (by omega)];simp [hx]
theorem qCD {L:List Int} {e f p:Int} {k m:Nat} (h:L[m]? = some p):qG3 e f k (L.take (m+1))=qG3 e f k (L.take m)++[⟨e,(k:Int),p,f⟩]:=by
 have hm:m < L.length:=by
  by_cases q:m < L.length
  ·exact q
  ·rw [List.getElem?_eq_none (by omega)] at h;cases h
 have : L[m]=p:=by rw [List.getElem?_eq_getElem hm] at h;exact Option.some.inj h
 rw [List.take_succ_eq_append_getElem hm,this];simp [qG3]
theorem qGv (a:Option Addr) (n cap:Nat) (zs:List Int) (e f s:Int) (w:World) (h:qC9 w a n zs) (hcl:∀ x∈zs,inR x 0 15=true) (hn:n<=4) (f0:1<=f) (f1:f<=4) (s0:0<=s) (s1:s<=255) :
  Calls Tryz.prog 100 #[.slice a n cap,.int .i64 e,.int .i64 f,.int .i64 s] w fun r w'=>∃ g c,r = .returned (.slice (some ⟨g,0,none⟩) (qB4 zs e f s n).length c)/\qA7 w' w.heap.size (.slice (some ⟨g,0,none⟩) (qB4 zs e f s n).length c) (qB4 zs e f s n)/\Below w.heap.size w w':=by
 obtain ⟨i0,hi,hz0,hz1,hz2⟩:=info_parts Tryz.info103;have hn':(n:Int)<=4:=by omega
 have HZ:Hid (zs.length=n):=h.1;have HK:Hid (∀ x∈zs,inR x 0 15=true):=hcl;obtain ⟨w1,hw1⟩:∃ w1,w1=w.alloc (.cells #[] 103):=⟨_,rfl⟩;have hb1:Below w.heap.size w w1:=by rw [hw1];exact zN
 have HO1:Hid (qA7 w1 w.heap.size (.slice (some ⟨w.heap.size,0,none⟩) 0 0) []):=by rw [hw1];exact World.ownsRow_lit w #[] 0 (Nat.le_refl _) (Nat.zero_le _) rfl
 have HI1:Hid (qC9 w1 a n zs):=h.below hb1;have HB1:Hid (Below w.heap.size w w1):=hb1;have HAL0:Hid (∀ b off,a=some ⟨b,off,none⟩->n=0\/b < w.heap.size):=qLy h;clear h hcl hb1;go_enter Tryz.func100,Tryz.ntmps100;go_wp2_with fail
 rw [<- hw1];clear hw1;refine (QW8 s s0 s1 _).mono ?_;rintro r w2 ⟨gl,cl,rfl,hown2,hb2⟩;obtain ⟨L,hL⟩:∃ L,qB3 s 8=L:=⟨_,rfl⟩;rw [hL] at hown2 ⊢
 have hL8:L.length<=8:=by rw [<- hL];exact qY7 s 8
 have hL8':(L.length:Int)<=8:=by omega
 have HLL:Hid (qB3 s 8=L):=hL;have HIL:Hid (w2.ownsRow w1.heap.size 2 1 (.slice (some ⟨gl,0,none⟩) L.length cl) L.length (L.map (Value.int .i64))):=hown2;have HAL:Hid (∀ b off,a=some ⟨b,off,none⟩->n=0\/b < w.heap.size):=HAL0.out;have HO2:Hid (qA7 w2 w.heap.size (.slice (some ⟨w.heap.size,0,none⟩) 0 0) []):=HO1.out.below hb2;have HI2:Hid (qC9 w2 a n zs):=HI1.out.below hb2;have HB2:Hid (Below w.heap.size w w2):=HB1.out.trans (hb2.mono HB1.out.size);have hsz2:w.heap.size<=w2.heap.size:=HB2.out.size;clear hown2 hb2 hL HO1 HI1 HB1;go_wp2;go_loopw [9,11] (fun v i wr=>∃ k:Nat,k<=n/\i = .int .i64 (k:Int)/\qA7 wr w.heap.size v (qB4 zs e f s k)/\v ≠ .slice none 0 0/\Below w.heap.size w wr/\qC9 wr a n zs/\wr.ownsRow w1.heap.size 2 1 (.slice (some ⟨gl,0,none⟩) L.length cl) L.length (L.map (Value.int .i64))) (fun _ i _=>n - (intOf i).toNat)
 case atStart=>exact ⟨0,Nat.zero_le _,rfl,HO2.out,by simp,HB2.out,HI2.out,HIL.out⟩
 case round =>
  obtain ⟨k,hk,rfl,hown,hnn,hnx,hia,hil⟩:=hrel;have HO:Hid (qA7 wr w.heap.size u9 (qB4 zs e f s k)):=hown;have HNN:Hid (u9 ≠ .slice none 0 0):=hnn;have HNX:Hid (Below w.heap.size w wr):=hnx;have HIA:Hid (qC9 wr a n zs):=hia;have HIL2:Hid (wr.ownsRow w1.heap.size 2 1 (.slice (some ⟨gl,0,none⟩) L.length cl) L.length (L.map (Value.int .i64))):=hil;clear hown hnn hnx hia hil;by_cases hlt:k < n
  ·have hlt':(k:Int) < (n:Int):=by omega
   obtain ⟨x,hx⟩:∃ x,zs[k]? = some x:=⟨_,List.getElem?_eq_getElem (by rw [HZ.out];exact hlt)⟩;obtain ⟨x0,x1⟩:=qMJ HK.out hx;have HX:Hid (zs[k]? = some x):=hx;obtain ⟨t,ht⟩:∃ t,qI5 x f=t:=⟨_,rfl⟩;have HT:Hid (qI5 x f=t):=ht;clear hx ht;cases t
   ·have HN:Hid (qB4 zs e f s (k+1)=qB4 zs e f s k):=by show qB4 zs e f s (k+1)=_;simp [qB4,qS0,HX.out,HT.out]
    go_wp2;go_loopw [9,12] (fun v j wq=>v=u9/\j = .int .i64 0/\wq=wr) (fun _ _ _=>0)
    case atStart=>exact ⟨rfl,rfl,rfl⟩
    case round =>
     obtain ⟨rfl,rfl,rfl⟩:=hrel;by_cases hl0:0 < L.length
     ·have hl0':(0:Int) < (L.length:Int):=by omega
      obtain ⟨b,off,y,e2,hy,c0,hbl⟩:=HIA.out.at hlt
      subst e2;rw [HX.out] at hy;cases hy;go_wp2_with (go_at_call 130;refine (qJq _ _ (by omega) (by omega) (by omega) (by omega) _).mono ?_;rintro e w' ⟨rfl,rfl⟩;rw [HT.out])
      exact ⟨⟨k+1,by omega,by go_num,by rw [HN.out];exact HO.out,HNN.out,HNX.out,HIA.out,HIL2.out⟩,by simp [intOf];omega⟩
     ·have hl0':¬ ((0:Int) < (L.length:Int)):=by omega
      go_wp2;exact ⟨⟨k+1,by omega,by go_num,by rw [HN.out];exact HO.out,HNN.out,HNX.out,HIA.out,HIL2.out⟩,by simp [intOf];omega⟩
   ·have HN:Hid (qB4 zs e f s (k+1)=qB4 zs e f s k++qG3 e f k L):=by show qB4 zs e f s (k+1)=_;simp [qB4,qS0,HX.out,HT.out,HLL.out]
    go_wp2;go_loopw [9,12] (fun v j wq=>∃ m:Nat,m<=L.length/\j = .int .i64 (m:Int)/\qA7 wq w.heap.size v (qB4 zs e f s k++qG3 e f k (L.take m))/\v ≠ .slice none 0 0/\Below w.heap.size w wq/\qC9 wq a n zs/\wq.ownsRow w1.heap.size 2 1 (.slice (some ⟨gl,0,none⟩) L.length cl) L.length (L.map (Value.int .i64))) (fun _ j _=>L.length - (intOf j).toNat)
    case atStart=>exact ⟨0,Nat.zero_le _,rfl,by simpa [qG3] using HO.out,HNN.out,HNX.out,HIA.out,HIL2.out⟩
    case round =>
     obtain ⟨m,hm,rfl,hown,hnn,hnx,hia,hil⟩:=hrel;have HO3:Hid (qA7 wr w.heap.size u9 (qB4 zs e f s k++qG3 e f k (L.take m))):=hown;have HNN3:Hid (u9 ≠ .slice none 0 0):=hnn;have HNX3:Hid (Below w.heap.size w wr):=hnx;have HIA3:Hid (qC9 wr a n zs):=hia;have HIL3:Hid (wr.ownsRow w1.heap.size 2 1 (.slice (some ⟨gl,0,none⟩) L.length cl) L.length (L.map (Value.int .i64))):=hil;clear hown hnn hnx hia hil HO HNN HNX HIA HIL2;by_cases hlm:m < L.length
     ·obtain ⟨b,off,y,e2,hy,c0,hbl⟩:=HIA3.out.at hlt
      rw [HX.out] at hy;cases hy;have hp:L[m]? = some L[m]:=List.getElem?_eq_getElem hlm;generalize L[m]=p at hp;have c1:=qJE HIL3.out hp hlm;have hlm':(m:Int) < (L.length:Int):=by omega
      have HP:Hid (qB4 zs e f s k++qG3 e f k (L.take (m+1))=(qB4 zs e f s k++qG3 e f k (L.take m))++[⟨e,(k:Int),p,f⟩]):=by
       show qB4 zs e f s k++qG3 e f k (L.take (m+1))=_
       rw [qCD hp,List.append_assoc]
      have HLE:Hid ((qB4 zs e f s k++qG3 e f k (L.take m)).length<=40):=by
       show (qB4 zs e f s k++qG3 e f k (L.take m)).length<=40
       have:=qV0 zs e f s k;simp [qG3];omega
      generalize qB4 zs e f s k++qG3 e f k (L.take m)=es at HO3 HP HLE;have hsw:=HNX3.out.size;have HA:Hid (a=some ⟨b,off,none⟩):=e2;subst e2;clear hp;go_wp2_with (first | (go_at_call 130;refine (qJq _ _ (by omega) (by omega) (by omega) (by omega) _).mono ?_;rintro e w' ⟨rfl,rfl⟩;rw [HT.out]) | (at_builtin;refine wpList_append_own _ rfl _ _ 34 rfl w.heap.size 103 i0 (.agg #[.int .i64 0,.int .i64 0,.int .i64 0,.int .i64 0]) 4 32 Tryz.under34 hi hz0 hz1 hz2 rfl (by decide) u9 (es.length) (qA3 es) rfl ?c0 ⟨_,0,none⟩ 1 1 [.int .i64 e,.int .i64 (k:Int),.int .i64 p,.int .i64 f] rfl rfl ?c1 ?c2 ?c3 ?c4 ?c5 ?_))
      case c0=>exact HO3.out.below (zN)
      case c1=>exact qBL _ _ (by first | rfl | simp) _ _ _ _ _
      case c2=>intro u hu;simp at hu;rcases hu with rfl | rfl | rfl | rfl <;> rfl
      case c3=>have:=HLE.out;unfold maxLen;omega
      case c4=>have:=HLE.out;omega
      case c5=>simp;omega
      ·intro v' w' hown' hgrow hnil;have B0:Below wr.heap.size wr (wr.alloc (.cells #[.int .i64 e,.int .i64 (k:Int),.int .i64 p,.int .i64 f] 103)):=zN
       have hlt9:∀ q,u9.ownBlock=some q->w.heap.size<=q:=fun q e9=>by
        have h0:wr.ownsRow w.heap.size 103 4 u9 es.length (qA3 es):=HO3.out;exact (h0.lt q e9).1
       have R1:Hid (qA7 w' w.heap.size v' (es++[⟨e,(k:Int),p,f⟩])):=qU9 (x:=⟨e,(k:Int),p,f⟩) hown';have R2:Hid (Below w.heap.size w w'):=QB3 (HO3.out.below B0) (HNX3.out.alloc hsw _) hgrow (by simp;omega);have R3:Hid (qC9 w' (some ⟨b,off,none⟩) n zs):=qFB (HIA3.out.below B0) hgrow HAL.out hlt9;have R4:Hid (w'.ownsRow w1.heap.size 2 1 (.slice (some ⟨gl,0,none⟩) L.length cl) L.length (L.map (Value.int .i64))):=World.ownsRow.kept (HIL3.out.alloc _) hgrow (.inr (fun q=>qIm HO3.out HIL3.out (by rw [<- q];rfl)));have hnn':v' ≠ .slice none 0 0:=by first | exact hnil | simpa using hnil
       clear hown' hgrow hnil B0 hlt9;go_wp2;exact ⟨⟨m+1,by omega,by go_num,by rw [HP.out];exact R1.out,hnn',R2.out,R3.out,R4.out⟩,by simp [intOf];omega⟩
     ·have hlm':¬ ((m:Int) < (L.length:Int)):=by omega
      have HE:Hid (qB4 zs e f s (k+1)=qB4 zs e f s k++qG3 e f k (L.take m)):=by show qB4 zs e f s (k+1)=_;rw [HN.out,List.take_of_length_le (by omega)]
      go_wp2;exact ⟨⟨k+1,by omega,by go_num,by rw [HE.out];exact HO3.out,HNN3.out,HNX3.out,HIA3.out,HIL3.out⟩,by simp [intOf];omega⟩
  ·have hkn:k=n:=by omega
   subst hkn;obtain ⟨g,c,e9⟩:=HO.out.shape HNN.out;subst e9;go_wp2;go_ret;exact ⟨g,c,rfl,HO.out,HNX.out⟩
