/- Contracts. -/
import Derived.Test.YtlpgapdlepbgbaaGreatDoorPe05
import Derived.Test.YtlpgapdlepbgbaaGreatDoorPe03
import Derived.Test.YtlpgapdlepbgbaaGreatDoorPe04
import Derived.Laws.AppendOwn
namespace Go.Proofs.YtlpgapdlepbgbaaGreatDoor
set_option maxRecDepth 100000
set_option maxHeartbeats 8000000
open Go.RowKit
set_option linter.unusedVariables false
set_option linter.unusedSimpArgs false

theorem QW4 (r:qA1) (h:r.k=1) (w:World) :
  Calls Tryz.prog 190 #[.agg #[.int .i64 r.k,.int .i64 r.ho,.int .i64 r.hn,.int .i64 r.w,.int .i64 r.oo,.int .i64 r.on,.int .i64 r.to,.int .i64 r.tn]] w fun e w' =>
   e = .returned (.iface 291 (.agg #[.int .i64 r.w]))∧Below w.heap.size w w':=by
 go_enter Tryz.func190,Tryz.ntmps190
 go_wp2
 go_ret
 exact ⟨rfl,by go_grown⟩
theorem QW3 (r:qA1) (h:r.k=2) (w:World) :
  Calls Tryz.prog 190 #[.agg #[.int .i64 r.k,.int .i64 r.ho,.int .i64 r.hn,.int .i64 r.w,.int .i64 r.oo,.int .i64 r.on,.int .i64 r.to,.int .i64 r.tn]] w fun e w' =>
   e = .returned (.iface 293 (.agg #[.int .i64 r.oo,.int .i64 r.on]))∧Below w.heap.size w w':=by
 go_enter Tryz.func190,Tryz.ntmps190
 go_wp2
 go_ret
 exact ⟨rfl,by go_grown⟩
theorem QI8 (r:qA1) (h:r.k=3) (w:World) :
  Calls Tryz.prog 190 #[.agg #[.int .i64 r.k,.int .i64 r.ho,.int .i64 r.hn,.int .i64 r.w,.int .i64 r.oo,.int .i64 r.on,.int .i64 r.to,.int .i64 r.tn]] w fun e w' =>
   e = .returned (.iface 295 (.agg #[.int .i64 r.oo,.int .i64 r.on,.int .i64 r.tn]))∧Below w.heap.size w w':=by
 go_enter Tryz.func190,Tryz.ntmps190
 go_wp2
 go_ret
 exact ⟨rfl,by go_grown⟩
theorem QW2 (r:qA1) (h:r.k=4) (w:World) :
  Calls Tryz.prog 190 #[.agg #[.int .i64 r.k,.int .i64 r.ho,.int .i64 r.hn,.int .i64 r.w,.int .i64 r.oo,.int .i64 r.on,.int .i64 r.to,.int .i64 r.tn]] w fun e w' =>
   e = .returned (.iface 297 (.agg #[.int .i64 r.oo,.int .i64 r.on,.int .i64 r.to,.int .i64 r.tn]))∧Below w.heap.size w w':=by
 go_enter Tryz.func190,Tryz.ntmps190
 go_wp2
 go_ret
 exact ⟨rfl,by go_grown⟩
theorem bodyOf_0 (r:qA1) (h:¬ (1≤r.k∧r.k≤4)) (w:World) :
  Calls Tryz.prog 190 #[.agg #[.int .i64 r.k,.int .i64 r.ho,.int .i64 r.hn,.int .i64 r.w,.int .i64 r.oo,.int .i64 r.on,.int .i64 r.to,.int .i64 r.tn]] w fun e w' =>
   e = .returned .nilIface∧Below w.heap.size w w':=by
 have h1:(r.k==1)=false:=by simp;omega
 have h2:(r.k==2)=false:=by simp;omega
 have h3:(r.k==3)=false:=by simp;omega
 have h4:(r.k==4)=false:=by simp;omega
 clear h
 go_enter Tryz.func190,Tryz.ntmps190
 go_wp2
 go_ret
 exact ⟨rfl,by go_grown⟩
theorem bcell2 {W w1:World} (hb:Below W.heap.size W w1):(∀ b o,b < W.heap.size→w1.cell? ⟨b,o,none⟩=W.cell? ⟨b,o,none⟩)∧(∀ b o,b < W.heap.size→w1.frozen? ⟨b,o,none⟩=W.frozen? ⟨b,o,none⟩) :=
 ⟨fun b o h=>hb.cell (p:=⟨b,o,none⟩) h,fun b o h=>hb.frozen (p:=⟨b,o,none⟩) h⟩
/-! The type switch: which body it is. -/
theorem ta11 (cs:Array Value) (w:World):(Instr.typeAssert (.iface 291 (.agg cs)) 262 291 true).run Tryz.prog w = .ok (.tuple #[.agg cs,.bool true]) w:=by kernel_rfl
theorem ta12 (cs:Array Value) (w:World):(Instr.typeAssert (.iface 291 (.agg cs)) 262 293 true).run Tryz.prog w = .ok (.tuple #[.agg #[.int .i64 0,.int .i64 0],.bool false]) w:=by kernel_rfl
theorem ta13 (cs:Array Value) (w:World):(Instr.typeAssert (.iface 291 (.agg cs)) 262 295 true).run Tryz.prog w = .ok (.tuple #[.agg #[.int .i64 0,.int .i64 0,.int .i64 0],.bool false]) w:=by kernel_rfl
theorem ta14 (cs:Array Value) (w:World):(Instr.typeAssert (.iface 291 (.agg cs)) 262 297 true).run Tryz.prog w = .ok (.tuple #[.agg #[.int .i64 0,.int .i64 0,.int .i64 0,.int .i64 0],.bool false]) w:=by kernel_rfl
theorem ta21 (cs:Array Value) (w:World):(Instr.typeAssert (.iface 293 (.agg cs)) 262 291 true).run Tryz.prog w = .ok (.tuple #[.agg #[.int .i64 0],.bool false]) w:=by kernel_rfl
theorem ta22 (cs:Array Value) (w:World):(Instr.typeAssert (.iface 293 (.agg cs)) 262 293 true).run Tryz.prog w = .ok (.tuple #[.agg cs,.bool true]) w:=by kernel_rfl
theorem ta23 (cs:Array Value) (w:World):(Instr.typeAssert (.iface 293 (.agg cs)) 262 295 true).run Tryz.prog w = .ok (.tuple #[.agg #[.int .i64 0,.int .i64 0,.int .i64 0],.bool false]) w:=by kernel_rfl
theorem ta24 (cs:Array Value) (w:World):(Instr.typeAssert (.iface 293 (.agg cs)) 262 297 true).run Tryz.prog w = .ok (.tuple #[.agg #[.int .i64 0,.int .i64 0,.int .i64 0,.int .i64 0],.bool false]) w:=by kernel_rfl
theorem ta31 (cs:Array Value) (w:World):(Instr.typeAssert (.iface 295 (.agg cs)) 262 291 true).run Tryz.prog w = .ok (.tuple #[.agg #[.int .i64 0],.bool false]) w:=by kernel_rfl
theorem ta32 (cs:Array Value) (w:World):(Instr.typeAssert (.iface 295 (.agg cs)) 262 293 true).run Tryz.prog w = .ok (.tuple #[.agg #[.int .i64 0,.int .i64 0],.bool false]) w:=by kernel_rfl
theorem ta33 (cs:Array Value) (w:World):(Instr.typeAssert (.iface 295 (.agg cs)) 262 295 true).run Tryz.prog w = .ok (.tuple #[.agg cs,.bool true]) w:=by kernel_rfl
theorem ta34 (cs:Array Value) (w:World):(Instr.typeAssert (.iface 295 (.agg cs)) 262 297 true).run Tryz.prog w = .ok (.tuple #[.agg #[.int .i64 0,.int .i64 0,.int .i64 0,.int .i64 0],.bool false]) w:=by kernel_rfl
theorem ta41 (cs:Array Value) (w:World):(Instr.typeAssert (.iface 297 (.agg cs)) 262 291 true).run Tryz.prog w = .ok (.tuple #[.agg #[.int .i64 0],.bool false]) w:=by kernel_rfl
theorem ta42 (cs:Array Value) (w:World):(Instr.typeAssert (.iface 297 (.agg cs)) 262 293 true).run Tryz.prog w = .ok (.tuple #[.agg #[.int .i64 0,.int .i64 0],.bool false]) w:=by kernel_rfl
theorem ta43 (cs:Array Value) (w:World):(Instr.typeAssert (.iface 297 (.agg cs)) 262 295 true).run Tryz.prog w = .ok (.tuple #[.agg #[.int .i64 0,.int .i64 0,.int .i64 0],.bool false]) w:=by kernel_rfl
theorem ta44 (cs:Array Value) (w:World):(Instr.typeAssert (.iface 297 (.agg cs)) 262 297 true).run Tryz.prog w = .ok (.tuple #[.agg cs,.bool true]) w:=by kernel_rfl
theorem qN0 {w w1:World} {o1 o2 o3:Obj} (h:Below (((w.alloc o1).alloc o2).alloc o3).heap.size (((w.alloc o1).alloc o2).alloc o3) w1):Below w.heap.size w w1:=qD5 (qD5 (qD5 h))

structure qC2 (lo hi:Nat) (P:World→Prop) (W:World):Prop where
 out:P W
 le:hi≤W.heap.size
 kept:∀ X X':World,P X→(∀ b,lo≤b→b < hi→X'.heap[b]? = X.heap[b]?)→P X'
theorem qC2.below {lo hi:Nat} {P:World→Prop} {W W':World} (h:qC2 lo hi P W) (hb:Below W.heap.size W W'):qC2 lo hi P W' :=
 ⟨h.kept _ _ h.out (fun b _ h2=>hb.block b (Nat.lt_of_lt_of_le h2 h.le)),Nat.le_trans h.le hb.size,h.kept⟩
theorem qC2.alloc {lo hi:Nat} {P:World→Prop} {W:World} (h:qC2 lo hi P W) (o:Obj):qC2 lo hi P (W.alloc o):=h.below (zN)
structure Chg (lo hi:Nat) (W W':World):Prop where
 below:∀ B,B≤lo→B≤W.heap.size→Below B W W'
 size:W.heap.size≤W'.heap.size
 block:∀ b,b < W.heap.size→(b < lo∨hi≤b)→W'.heap[b]? = W.heap[b]?
theorem Chg.grown {lo hi:Nat} {W W':World} {row:Option Nat} (hg:W.grownBy W' row) (h:∀ q,row=some q→lo≤q∧q < hi):Chg lo hi W W' :=
 ⟨fun B h1 h2=>(Below.refl _ _).grown hg h2 (fun q e=>Nat.le_trans h1 (h q e).1),hg.size,fun b h1 h2=>hg.block b h1 (fun e=>by have:=h b e.symm;omega)⟩
theorem Chg.calls {lo hi:Nat} {W W':World} (hb:Below W.heap.size W W'):Chg lo hi W W' :=
 ⟨fun B h1 h2=>hb.mono h2,hb.size,fun b h1 h2=>hb.block b h1⟩
theorem Chg.trans {lo hi:Nat} {A B C:World} (h:Chg lo hi A B) (k:Chg lo hi B C):Chg lo hi A C :=
 ⟨fun b h1 h2=>(h.below b h1 h2).trans (k.below b h1 (Nat.le_trans h2 h.size)),Nat.le_trans h.size k.size,fun b h1 h2=>(k.block b (Nat.lt_of_lt_of_le h1 h.size) h2).trans (h.block b h1 h2)⟩
theorem qC2.chg {lo hi l r:Nat} {P:World→Prop} {W W':World} (h:qC2 lo hi P W) (c:Chg l r W W') (d:hi≤l∨r≤lo):qC2 lo hi P W' :=
 ⟨h.kept _ _ h.out (fun b h1 h2=>c.block b (Nat.lt_of_lt_of_le h2 h.le) (by omega)),Nat.le_trans h.le c.size,h.kept⟩
theorem QN7 {B l r:Nat} {w W W':World} (h:Below B w W) (c:Chg l r W W') (h1:B≤l) (h2:B≤W.heap.size):Below B w W':=h.trans (c.below B h1 h2)
theorem qL4 {W w:World} (h:(∀ b o,b < W.heap.size→w.cell? ⟨b,o,none⟩=W.cell? ⟨b,o,none⟩)∧Below W.heap.size W w) (o:Obj):(∀ b i,b < W.heap.size→(w.alloc o).cell? ⟨b,i,none⟩=W.cell? ⟨b,i,none⟩)∧Below W.heap.size W (w.alloc o) :=
 ⟨fun b i hb=>(((Below.refl w.heap.size w).alloc (Nat.le_refl _) o).cell (p:=⟨b,i,none⟩) (Nat.lt_of_lt_of_le hb h.2.size)).trans (h.1 b i hb),h.2.alloc h.2.size _⟩
theorem qB9 {W w:World} (h:(∀ b o,b < W.heap.size→w.cell? ⟨b,o,none⟩=W.cell? ⟨b,o,none⟩)∧Below W.heap.size W w) {p:Addr} (hp:W.heap.size≤p.block) (v:Value):(∀ b i,b < W.heap.size→(w.setCell p v).cell? ⟨b,i,none⟩=W.cell? ⟨b,i,none⟩)∧Below W.heap.size W (w.setCell p v) :=
 ⟨fun b i hb=>by
  have hne:p≠⟨b,i,none⟩:=fun e=>by rw [e] at hp;simp only at hp;omega
  rw [World.cell?_setCell_other (h:=hne)]
  exact h.1 b i hb,h.2.setCell hp _⟩
def qE8 (b:Nat) (vs:List Value) (X:World):Prop:=∀ j v,vs[j]? = some v→X.cell? ⟨b,j,none⟩=some v
theorem qE8.hold {b:Nat} {vs:List Value} {W:World} (h:qE8 b vs W) (hb:b < W.heap.size):qC2 b (b+1) (qE8 b vs) W :=
 ⟨h,hb,fun X X' hX hk j v e=>(World.cell?_of_block (w:=X) (w':=X') (a:=⟨b,j,none⟩) (hk b (Nat.le_refl _) (by omega))).trans (hX j v e)⟩
theorem qF2 (W:World) (cs:Array Value) (t:TypeId):qC2 W.heap.size (W.heap.size+1) (qE8 W.heap.size cs.toList) (W.alloc (.cells cs t)):=by
 refine qE8.hold (fun j v e=>?_) (by simp)
 have h:(W.alloc (.cells cs t)).heap[W.heap.size]? = some (.cells cs t):=by show (W.heap.push _)[W.heap.size]? = _;simp
 unfold World.cell?
 simp only
 rw [h]
 simpa using e
def qG2 (b:Nat) (vs:List Value) (X:World):Prop:=qE8 b vs X∧(∀ j,X.frozen? ⟨b,j,none⟩=false)
theorem qG2.hold {b:Nat} {vs:List Value} {W:World} (h:qG2 b vs W) (hb:b < W.heap.size):qC2 b (b+1) (qG2 b vs) W :=
 ⟨h,hb,fun X X' hX hk=>⟨(qE8.hold h.1 hb).kept X X' hX.1 hk,fun j=>(World.frozen?_of_block (w:=X) (w':=X') (a:=⟨b,j,none⟩) (hk b (Nat.le_refl _) (by omega))).trans (hX.2 j)⟩⟩
theorem qG2.below {b:Nat} {vs:List Value} {W W':World} (h:qG2 b vs W) (hb:b < W.heap.size) (hw:Below W.heap.size W W'):qG2 b vs W':=((h.hold hb).below hw).out
theorem qE1 (W:World) (cs:Array Value) (t:TypeId):qG2 W.heap.size cs.toList (W.alloc (.cells cs t)) :=
 ⟨(qF2 W cs t).out,fun j=>by
  have h:(W.alloc (.cells cs t)).heap[W.heap.size]? = some (.cells cs t):=by show (W.heap.push _)[W.heap.size]? = _;simp
  unfold World.frozen?
  simp only
  rw [h]
  simp⟩
theorem qG2.put {b:Nat} {vs:List Value} {X:World} (h:qG2 b vs X) (j:Nat) (hj:j < vs.length) (v:Value):qG2 b (vs.set j v) (X.setCell ⟨b,j,none⟩ v):=by
 refine ⟨fun i u e=>?_,fun i=>by rw [World.frozen?_setCell];exact h.2 i⟩
 by_cases q:i=j
 ·subst q
  rw [List.getElem?_set_self hj] at e
  have hc:=h.1 i _ (List.getElem?_eq_getElem hj)
  cases e
  simp [go_sem,hc]
 ·rw [List.getElem?_set_ne (Ne.symm q)] at e
  rw [World.cell?_setCell_other (h:=fun e=>q (by have:=congrArg Addr.off e;simp at this;omega))]
  exact h.1 i u e
theorem qG2.other {b:Nat} {vs:List Value} {X:World} (h:qG2 b vs X) {p:Addr} (hp:p.block≠b) (v:Value):qG2 b vs (X.setCell p v):=by
 refine ⟨fun i u e=>?_,fun i=>by rw [World.frozen?_setCell];exact h.2 i⟩
 rw [World.cell?_setCell_other (h:=fun e=>hp (by rw [e]))]
 exact h.1 i u e
theorem qA2 {X X':World} {B:Nat} {t:TypeId} {sz:Nat} {v:Value} {n:Nat} {xs:List Value} (h:X.ownsRow B t sz v n xs) (hk:∀ g,v.ownBlock=some g→X'.heap[g]? = X.heap[g]?):X'.ownsRow B t sz v n xs:=by
 refine ⟨h.1,?_⟩
 rcases h.2 with q | ⟨g,cap,cur,e,hg,hb,rest⟩
 ·exact .inl q
 ·exact .inr ⟨g,cap,cur,e,hg,(hk g (by rw [e];rfl)).trans hb,rest⟩
theorem qY5 {W:World} {B:Nat} {t:TypeId} {sz:Nat} {v:Value} {n:Nat} {xs:List Value} (h:W.ownsRow B t sz v n xs) (hi:Nat) (h1:∀ g,v.ownBlock=some g→g < hi) (h2:hi≤W.heap.size):qC2 B hi (fun X=>X.ownsRow B t sz v n xs) W :=
 ⟨h,h2,fun X X' hX hk=>qA2 hX (fun g e=>hk g (hX.lt g e).1 (h1 g e))⟩
theorem QR0 {W:World} {B:Nat} {t:TypeId} {sz:Nat} {v:Value} {n:Nat} {xs:List Value} (h:W.ownsRow B t sz v n xs):qC2 B W.heap.size (fun X=>X.ownsRow B t sz v n xs) W:=qY5 h _ (fun g e=>(h.lt g e).2) (Nat.le_refl _)

end Go.Proofs.YtlpgapdlepbgbaaGreatDoor
