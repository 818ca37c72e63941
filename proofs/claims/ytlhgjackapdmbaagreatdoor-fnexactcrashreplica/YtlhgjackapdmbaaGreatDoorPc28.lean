/- Contracts. -/
import Derived.Test.YtlhgjackapdmbaaGreatDoorPc26
import Derived.Laws.AppendOwn
namespace Go.Proofs.YtlhgjackapdmbaaGreatDoor
set_option maxRecDepth 100000
set_option maxHeartbeats 8000000
open Go.RowKit
set_option linter.unusedVariables false
set_option linter.unusedSimpArgs false

def nfC (cs:List qA3) (e n:Int):Int:=if n < 0∨(cs.length:Int)≤n then 3 else if (cs[n.toNat]?.getD default).e≠e+1 then 10 else 0
theorem nextFault_c (a:Option Addr) (m cap:Nat) (cs:List qA3) (e n:Int) (w:World) (hm:m≤1048576) (he:0≤e∧e≤100) (hc:qA6 w a m cs) :
  Calls Tryz.prog 111 #[.slice a m cap,.int .i64 e,.int .i64 n] w fun d w'=>d = .returned (.int .i64 (nfC cs e n))∧Below w.heap.size w w':=by
 have HC:Hid (qA6 w a m cs):=hc
 have HL:Hid (cs.length=m):=hc.len
 have hm':(m:Int)≤1048576:=by omega
 obtain ⟨he0,he1⟩:=he
 clear hc
 by_cases h0:n < 0
 ·have HV:Hid (nfC cs e n=3):=by show nfC cs e n=3;unfold nfC;rw [if_pos (.inl h0)]
  rw [HV.out]
  have hb:decide (n < 0)=true:=by simp [h0]
  go_enter Tryz.func111,Tryz.ntmps111
  go_wp2
  go_ret
  exact ⟨rfl,Below.refl _ _⟩
 ·have hb:decide (n < 0)=false:=by simp;omega
  by_cases h1:(m:Int)≤n
  ·have HV:Hid (nfC cs e n=3):=by show nfC cs e n=3;unfold nfC;rw [if_pos (.inr (by rw [HL.out];exact h1))]
   rw [HV.out]
   have hb1:decide ((m:Int)≤n)=true:=by simp [h1]
   go_enter Tryz.func111,Tryz.ntmps111
   go_wp2
   go_ret
   exact ⟨rfl,Below.refl _ _⟩
  ·obtain ⟨k,rfl⟩:∃ k:Nat,n=(k:Int):=Int.eq_ofNat_of_zero_le (by omega)
   have hkm:k < m:=by omega
   have hb1:decide ((m:Int)≤(k:Int))=false:=by simp;omega
   obtain ⟨g,off,c,rfl,hck,hat,_⟩:=HC.out.at hkm
   have HV:Hid (nfC cs e (k:Int)=if c.e≠e+1 then 10 else 0):=by show nfC _ _ _=_;unfold nfC;rw [if_neg (by rw [HL.out];omega),Int.toNat_natCast,hck];rfl
   have hgl:=hat.lt
   obtain ⟨y0,_⟩:=hat
   have hlt':(k:Int) < (m:Int):=by omega
   by_cases hce:c.e=e+1
   ·have hceb:(c.e != e+1)=false:=by simp [hce]
    rw [HV.out,if_neg (by simp [hce])]
    clear hce hck h0 h1
    go_enter Tryz.func111,Tryz.ntmps111
    go_wp2
    go_ret
    exact ⟨rfl,Below.refl _ _⟩
   ·have hceb:(c.e != e+1)=true:=by simp [hce]
    rw [HV.out,if_pos hce]
    clear hce hck h0 h1
    go_enter Tryz.func111,Tryz.ntmps111
    go_wp2
    go_ret
    exact ⟨rfl,Below.refl _ _⟩

structure qB9 (lo hi:Nat) (P:World→Prop) (W:World):Prop where
 out:P W
 le:hi≤W.heap.size
 kept:∀ X X':World,P X→(∀ b,lo≤b→b < hi→X'.heap[b]? = X.heap[b]?)→P X'
theorem qB9.below {lo hi:Nat} {P:World→Prop} {W W':World} (h:qB9 lo hi P W) (hb:Below W.heap.size W W'):qB9 lo hi P W' :=
 ⟨h.kept _ _ h.out (fun b _ h2=>hb.block b (Nat.lt_of_lt_of_le h2 h.le)),Nat.le_trans h.le hb.size,h.kept⟩
theorem qB9.alloc {lo hi:Nat} {P:World→Prop} {W:World} (h:qB9 lo hi P W) (o:Obj):qB9 lo hi P (W.alloc o):=h.below (zN)
structure Chg (lo hi:Nat) (W W':World):Prop where
 below:∀ B,B≤lo→B≤W.heap.size→Below B W W'
 size:W.heap.size≤W'.heap.size
 block:∀ b,b < W.heap.size→(b < lo∨hi≤b)→W'.heap[b]? = W.heap[b]?
theorem Chg.grown {lo hi:Nat} {W W':World} {row:Option Nat} (hg:W.grownBy W' row) (h:∀ q,row=some q→lo≤q∧q < hi):Chg lo hi W W' :=
 ⟨fun B h1 h2=>(Below.refl _ _).grown hg h2 (fun q e=>Nat.le_trans h1 (h q e).1),hg.size,fun b h1 h2=>hg.block b h1 (fun e=>by have:=h b e.symm;omega)⟩
theorem Chg.calls {lo hi:Nat} {W W':World} (hb:Below W.heap.size W W'):Chg lo hi W W' :=
 ⟨fun B h1 h2=>hb.mono h2,hb.size,fun b h1 h2=>hb.block b h1⟩
theorem Chg.trans {lo hi:Nat} {A B C:World} (h:Chg lo hi A B) (k:Chg lo hi B C):Chg lo hi A C :=
 ⟨fun b h1 h2=>(h.below b h1 h2).trans (k.below b h1 (Nat.le_trans h2 h.size)),Nat.le_trans h.size k.size,fun b h1 h2=>(k.block b (Nat.lt_of_lt_of_le h1 h.size) h2).trans (h.block b h1 h2)⟩
theorem qB9.chg {lo hi l r:Nat} {P:World→Prop} {W W':World} (h:qB9 lo hi P W) (c:Chg l r W W') (d:hi≤l∨r≤lo):qB9 lo hi P W' :=
 ⟨h.kept _ _ h.out (fun b h1 h2=>c.block b (Nat.lt_of_lt_of_le h2 h.le) (by omega)),Nat.le_trans h.le c.size,h.kept⟩
theorem QN9 {B l r:Nat} {w W W':World} (h:Below B w W) (c:Chg l r W W') (h1:B≤l) (h2:B≤W.heap.size):Below B w W':=h.trans (c.below B h1 h2)
def qE5 (b:Nat) (vs:List Value) (X:World):Prop:=∀ j v,vs[j]? = some v→X.cell? ⟨b,j,none⟩=some v
theorem qE5.hold {b:Nat} {vs:List Value} {W:World} (h:qE5 b vs W) (hb:b < W.heap.size):qB9 b (b+1) (qE5 b vs) W :=
 ⟨h,hb,fun X X' hX hk j v e=>(World.cell?_of_block (w:=X) (w':=X') (a:=⟨b,j,none⟩) (hk b (Nat.le_refl _) (by omega))).trans (hX j v e)⟩
theorem qE0 (W:World) (cs:Array Value) (t:TypeId):qB9 W.heap.size (W.heap.size+1) (qE5 W.heap.size cs.toList) (W.alloc (.cells cs t)):=by
 refine qE5.hold (fun j v e=>?_) (by simp)
 have h:(W.alloc (.cells cs t)).heap[W.heap.size]? = some (.cells cs t):=by show (W.heap.push _)[W.heap.size]? = _;simp
 unfold World.cell?
 simp only
 rw [h]
 simpa using e
def qI3 (b:Nat) (vs:List Value) (X:World):Prop:=qE5 b vs X∧(∀ j,X.frozen? ⟨b,j,none⟩=false)
theorem qI3.hold {b:Nat} {vs:List Value} {W:World} (h:qI3 b vs W) (hb:b < W.heap.size):qB9 b (b+1) (qI3 b vs) W :=
 ⟨h,hb,fun X X' hX hk=>⟨(qE5.hold h.1 hb).kept X X' hX.1 hk,fun j=>(World.frozen?_of_block (w:=X) (w':=X') (a:=⟨b,j,none⟩) (hk b (Nat.le_refl _) (by omega))).trans (hX.2 j)⟩⟩
theorem qI3.below {b:Nat} {vs:List Value} {W W':World} (h:qI3 b vs W) (hb:b < W.heap.size) (hw:Below W.heap.size W W'):qI3 b vs W':=((h.hold hb).below hw).out
theorem qG7 (W:World) (cs:Array Value) (t:TypeId):qI3 W.heap.size cs.toList (W.alloc (.cells cs t)) :=
 ⟨(qE0 W cs t).out,fun j=>by
  have h:(W.alloc (.cells cs t)).heap[W.heap.size]? = some (.cells cs t):=by show (W.heap.push _)[W.heap.size]? = _;simp
  unfold World.frozen?
  simp only
  rw [h]
  simp⟩
theorem qI3.put {b:Nat} {vs:List Value} {X:World} (h:qI3 b vs X) (j:Nat) (hj:j < vs.length) (v:Value):qI3 b (vs.set j v) (X.setCell ⟨b,j,none⟩ v):=by
 refine ⟨fun i u e=>?_,fun i=>by rw [World.frozen?_setCell];exact h.2 i⟩
 by_cases q:i=j
 ·subst q
  rw [List.getElem?_set_self hj] at e
  have hc:=h.1 i _ (List.getElem?_eq_getElem hj)
  cases e
  simp [go_sem,hc]
 ·rw [List.getElem?_set_ne (Ne.symm q)] at e
  rw [World.cell?_setCell_other (h:=fun e=>q (by have:=congrArg Addr.off e;simp at this;omega))]
  exact h.1 i u e
theorem qI3.other {b:Nat} {vs:List Value} {X:World} (h:qI3 b vs X) {p:Addr} (hp:p.block≠b) (v:Value):qI3 b vs (X.setCell p v):=by
 refine ⟨fun i u e=>?_,fun i=>by rw [World.frozen?_setCell];exact h.2 i⟩
 rw [World.cell?_setCell_other (h:=fun e=>hp (by rw [e]))]
 exact h.1 i u e
theorem qA0 {X X':World} {B:Nat} {t:TypeId} {sz:Nat} {v:Value} {n:Nat} {xs:List Value} (h:X.ownsRow B t sz v n xs) (hk:∀ g,v.ownBlock=some g→X'.heap[g]? = X.heap[g]?):X'.ownsRow B t sz v n xs:=by
 refine ⟨h.1,?_⟩
 rcases h.2 with q | ⟨g,cap,cur,e,hg,hb,rest⟩
 ·exact .inl q
 ·exact .inr ⟨g,cap,cur,e,hg,(hk g (by rw [e];rfl)).trans hb,rest⟩
theorem QK7 {W:World} {B:Nat} {t:TypeId} {sz:Nat} {v:Value} {n:Nat} {xs:List Value} (h:W.ownsRow B t sz v n xs) (hi:Nat) (h1:∀ g,v.ownBlock=some g→g < hi) (h2:hi≤W.heap.size):qB9 B hi (fun X=>X.ownsRow B t sz v n xs) W :=
 ⟨h,h2,fun X X' hX hk=>qA0 hX (fun g e=>hk g (hX.lt g e).1 (h1 g e))⟩
theorem qR5 {W:World} {B:Nat} {t:TypeId} {sz:Nat} {v:Value} {n:Nat} {xs:List Value} (h:W.ownsRow B t sz v n xs):qB9 B W.heap.size (fun X=>X.ownsRow B t sz v n xs) W:=QK7 h _ (fun g e=>(h.lt g e).2) (Nat.le_refl _)

structure Mrk (w w':World):Prop where
 it:∀ (a:Addr) (x:Int),w.cell? a=some (.int .i64 x)→∃ y,w'.cell? a=some (.int .i64 y)
 sl:∀ (a:Addr) (b:Option Addr) (n c:Nat),w.cell? a=some (.slice b n c)→w'.cell? a=some (.slice b n c)
 fr:∀ a,w'.frozen? a=w.frozen? a
theorem Mrk.refl (w:World):Mrk w w:=⟨fun _ x h=>⟨x,h⟩,fun _ _ _ _ h=>h,fun _=>rfl⟩
theorem Mrk.trans {a b c:World} (h:Mrk a b) (k:Mrk b c):Mrk a c :=
 ⟨fun q x e=>by obtain ⟨y,e'⟩:=h.it q x e;exact k.it q y e',fun q b n c e=>k.sl q b n c (h.sl q b n c e),fun q=>(k.fr q).trans (h.fr q)⟩
theorem Mrk.set {w:World} {a:Addr} {x:Int} (h:w.cell? a=some (.int .i64 x)) (y:Int):Mrk w (w.setCell a (.int .i64 y)):=by
 refine ⟨fun q z e=>?_,fun q b n c e=>?_,fun q=>World.frozen?_setCell ..⟩
 ·by_cases hq:q=a
  ·subst hq
   exact ⟨y,by simp [go_sem,h]⟩
  ·exact ⟨z,by rw [World.cell?_setCell_other (h:=fun e=>hq e.symm)];exact e⟩
 ·have hq:q≠a:=fun e'=>by subst e';rw [h] at e;cases e
  rw [World.cell?_setCell_other (h:=fun e=>hq e.symm)]
  exact e
def qN9 (w:World) (g m:Nat):Prop:=(∀ j,j < m→∃ x,w.cell? ⟨g,j,none⟩=some (.int .i64 x))∧∀ j,w.frozen? ⟨g,j,none⟩=false
theorem qN9.mrk {w w':World} {g m:Nat} (h:qN9 w g m) (k:Mrk w w'):qN9 w' g m :=
 ⟨fun j hj=>by obtain ⟨x,e⟩:=h.1 j hj;exact k.it _ x e,fun j=>(k.fr _).trans (h.2 j)⟩
theorem Chg.refl {lo hi:Nat} (w:World):Chg lo hi w w:=Chg.calls (Below.refl _ _)
structure MI (lo hi:Nat) (w0 w:World) (g m:Nat):Prop where
 mr:Mrk w0 w
 ch:Chg lo hi w0 w
 rw:qN9 w g m
theorem MI.set {lo hi:Nat} {w0 w:World} {g m j:Nat} (h:MI lo hi w0 w g m) (hg:lo≤g∧g < hi) (hj:j < m) (y:Int):MI lo hi w0 (w.setCell ⟨g,j,none⟩ (.int .i64 y)) g m:=by
 obtain ⟨x,e⟩:=h.rw.1 j hj
 have hm:=Mrk.set e y
 exact ⟨h.mr.trans hm,h.ch.trans (Chg.grown (qJ3 w g j _) (fun q e=>by cases e;exact hg)),h.rw.mrk hm⟩
theorem markIntsK_c (lo hi g n cap:Nat) (k0:Int) (w:World) (hn:n≤1048576) (h0:0≤k0) (h1:k0≤9000000000000000000) (hg:lo≤g∧g < hi) (h:qN9 w g (n)) :
  Calls Tryz.prog 47 #[.slice (some ⟨g,0,none⟩) n cap,.int .i64 k0] w fun e w'=>e = .returned (.int .i64 (k0+1 * (n:Int)))∧Mrk w w'∧Chg lo hi w w':=by
 have HO:Hid (MI lo hi w w g (n)):=⟨Mrk.refl w,Chg.refl w,h⟩
 clear h
 have hn':(n:Int)≤1048576:=by omega
 go_enter Tryz.func47,Tryz.ntmps47
 go_wp2
 go_loopw [1,5] (fun q i wr=>∃ (j:Nat),j≤n∧i = .int .i64 (j:Int)∧q = .int .i64 (k0+1 * (j:Int))∧MI lo hi w wr g (n))
  (fun _ i _=>n - (intOf i).toNat)
 case atStart=>exact ⟨0,Nat.zero_le _,rfl,by simp,HO.out⟩
 case round =>
  obtain ⟨j,hj,rfl,rfl,hmi⟩:=hrel
  have HG:Hid (MI lo hi w wr g (n)):=hmi
  have hroom:=hmi.rw
  clear hmi
  by_cases hlt:j < n
  ·have hlt':(j:Int) < (n:Int):=by omega
   obtain ⟨v0,c0⟩:=hroom.1 (j) (by omega)
   have f0:=hroom.2 (j)
   clear hroom
   go_wp2
   refine ⟨⟨j+1,by omega,by go_num,?_,?_⟩,by simp [intOf];omega⟩
   ·congr 1;omega
   ·exact (HG.out.set hg (show j < n by omega) _)
  ·have hjn:j=n:=by omega
   subst hjn
   clear hroom
   go_wp2
   go_ret
   exact ⟨rfl,HG.out.mr,HG.out.ch⟩
theorem qN9.below {w w':World} {g m:Nat} (h:qN9 w g m) (hg:g < w.heap.size) (hb:Below w.heap.size w w'):qN9 w' g m :=
 ⟨fun j hj=>by obtain ⟨x,e⟩:=h.1 j hj;exact ⟨x,(hb.cell (p:=⟨g,j,none⟩) hg).trans e⟩,fun j=>(hb.frozen (p:=⟨g,j,none⟩) hg).trans (h.2 j)⟩
structure qK1 (P:World→Prop) (W:World):Prop where
 out:P W
 kept:∀ X X':World,P X→Below X.heap.size X X'→P X'
theorem qK1.below {P:World→Prop} {W W':World} (h:qK1 P W) (hb:Below W.heap.size W W'):qK1 P W':=⟨h.kept _ _ h.out hb,h.kept⟩

end Go.Proofs.YtlhgjackapdmbaaGreatDoor
