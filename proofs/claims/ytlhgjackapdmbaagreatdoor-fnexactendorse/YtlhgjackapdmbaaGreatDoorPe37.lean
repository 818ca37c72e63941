/- Contracts. -/
import Derived.Test.YtlhgjackapdmbaaGreatDoorPe09
import Derived.Laws.AppendOwn
namespace Go.Proofs.YtlhgjackapdmbaaGreatDoor
set_option maxRecDepth 100000
set_option maxHeartbeats 8000000
open Go.RowKit
set_option linter.unusedVariables false
set_option linter.unusedSimpArgs false

theorem st_form {x:StI} (hk:inR x.k 1 4=true) (h:x.k < 3):qC3 x=if x.n=0 then (if inR x.e 1 9=false then 3 else if inR x.f 1 4=false then 3 else if inR x.s 1 255=false then 3 else 0) else 1:=by
 obtain ⟨k,e,f,s,n⟩:=x
 simp only at hk h ⊢
 have hf:QH5 k=true:=by rw [qG9] at hk;have : k=1∨k=2:=(by omega);rcases this with rfl | rfl <;> rfl
 have ho:ownB ⟨k,e,f,s,n⟩=decide (n=0):=by
  unfold ownB ownI
  simp only [hf,if_true,qP7]
  simp [eq_comm]
 unfold qC3 rngB
 simp only [hk,ho,hf]
 by_cases h0:n=0
 ·subst h0
  cases inR e 1 9 <;> cases inR f 1 4 <;> cases inR s 1 255 <;> simp
 ·simp [h0]
theorem st_next {x:StI} (hk:inR x.k 1 4=true) (h:3≤x.k):qC3 x=if x.f=0∧x.s=0 then (if inR x.e 1 9=false then 3 else if inR x.n 0 7=false then 3 else 0) else 1:=by
 obtain ⟨k,e,f,s,n⟩:=x
 simp only at hk h ⊢
 have hf:QH5 k=false:=by rw [qG9] at hk;have : k=3∨k=4:=(by omega);rcases this with rfl | rfl <;> rfl
 have ho:ownB ⟨k,e,f,s,n⟩=decide (f=0∧s=0):=by
  unfold ownB ownI
  simp only [hf,qP7]
  simp
 unfold qC3 rngB
 simp only [hk,ho,hf]
 by_cases h0:f=0∧s=0
 ·obtain ⟨rfl,rfl⟩:=h0
  cases inR e 1 9 <;> cases inR n 0 7 <;> simp
 ·simp [h0]
theorem in07:inR 0 0 7=true:=rfl
theorem qN5 (b o:Nat) (x:StI) (w:World) (h:qS7 w b o x):Calls Tryz.prog 74 #[.pointer (some ⟨b,o,none⟩)] w fun e w'=>e = .returned (.int .i64 (qC3 x))∧w=w':=by
 obtain ⟨x0,x1,x2,x3,x4⟩:=h
 cases hk:inR x.k 1 4
 ·have hC:qC3 x=1:=by unfold qC3;rw [if_pos hk]
  rw [hC]
  clear hC
  go_enter Tryz.func74,Tryz.ntmps74
  go_wp2_with (first | (go_at_call 51;refine (qX8 _ _ _ _).mono ?_;rintro e w' ⟨rfl,rfl⟩;rw [hk]))
  go_ret
  exact ⟨rfl,rfl⟩
 ·by_cases h3:3≤x.k
  ·rw [st_next hk h3]
   by_cases f0:x.f=0
   ·by_cases s0:x.s=0
    ·rw [if_pos ⟨f0,s0⟩]
     rw [f0] at x2
     rw [s0] at x3
     clear f0 s0
     cases he:inR x.e 1 9
     ·go_enter Tryz.func74,Tryz.ntmps74
      go_wp2_with (first | (go_at_call 51;refine (qX8 _ _ _ _).mono ?_;rintro e w' ⟨rfl,rfl⟩;rw [hk]) | (go_at_call 95;refine (qT4 _ _).mono ?_;rintro e w' ⟨rfl,rfl⟩;rw [he]))
      go_ret
      exact ⟨rfl,rfl⟩
     ·cases hn:inR x.n 0 7
      all_goals
       go_enter Tryz.func74,Tryz.ntmps74
       go_wp2_with (first | (go_at_call 51;refine (qX8 _ _ _ _).mono ?_;rintro e w' ⟨rfl,rfl⟩;rw [hk]) | (go_at_call 95;refine (qT4 _ _).mono ?_;rintro e w' ⟨rfl,rfl⟩;rw [he]) | (go_at_call 51;refine (qX8 _ _ _ _).mono ?_;rintro e w' ⟨rfl,rfl⟩;rw [hn]))
       go_ret
       exact ⟨rfl,rfl⟩
    ·rw [if_neg (fun q=>s0 q.2)]
     rw [f0] at x2
     have sb:(x.s != 0)=true:=by simpa using s0
     clear f0 s0
     go_enter Tryz.func74,Tryz.ntmps74
     go_wp2_with (first | (go_at_call 51;refine (qX8 _ _ _ _).mono ?_;rintro e w' ⟨rfl,rfl⟩;rw [hk]))
     go_ret
     exact ⟨rfl,rfl⟩
   ·rw [if_neg (fun q=>f0 q.1)]
    have fb:(x.f != 0)=true:=by simpa using f0
    clear f0
    go_enter Tryz.func74,Tryz.ntmps74
    go_wp2_with (first | (go_at_call 51;refine (qX8 _ _ _ _).mono ?_;rintro e w' ⟨rfl,rfl⟩;rw [hk]))
    go_ret
    exact ⟨rfl,rfl⟩
  ·have h3':x.k < 3:=by omega
   rw [st_form hk h3']
   clear h3
   by_cases n0:x.n=0
   ·rw [if_pos n0]
    rw [n0] at x4
    clear n0
    have hn:=in07
    cases he:inR x.e 1 9
    ·go_enter Tryz.func74,Tryz.ntmps74
     go_wp2_with (first | (go_at_call 51;refine (qX8 _ _ _ _).mono ?_;rintro e w' ⟨rfl,rfl⟩;rw [hk]) | (go_at_call 95;refine (qT4 _ _).mono ?_;rintro e w' ⟨rfl,rfl⟩;rw [he]))
     go_ret
     exact ⟨rfl,rfl⟩
    ·cases hf:inR x.f 1 4
     ·go_enter Tryz.func74,Tryz.ntmps74
      go_wp2_with (first | (go_at_call 51;refine (qX8 _ _ _ _).mono ?_;rintro e w' ⟨rfl,rfl⟩;rw [hk]) | (go_at_call 95;refine (qT4 _ _).mono ?_;rintro e w' ⟨rfl,rfl⟩;rw [he]) | (go_at_call 96;refine (sForm_c _ _).mono ?_;rintro e w' ⟨rfl,rfl⟩;rw [hf]))
      go_ret
      exact ⟨rfl,rfl⟩
     ·cases hs:inR x.s 1 255
      all_goals
       go_enter Tryz.func74,Tryz.ntmps74
       go_wp2_with (first | (go_at_call 51;refine (qX8 _ _ _ _).mono ?_;rintro e w' ⟨rfl,rfl⟩;rw [hk]) | (go_at_call 95;refine (qT4 _ _).mono ?_;rintro e w' ⟨rfl,rfl⟩;rw [he]) | (go_at_call 96;refine (sForm_c _ _).mono ?_;rintro e w' ⟨rfl,rfl⟩;rw [hf]) | (go_at_call 51;refine (qX8 _ _ _ _).mono ?_;rintro e w' ⟨rfl,rfl⟩;rw [hs]) | (go_at_call 51;refine (qX8 _ _ _ _).mono ?_;rintro e w' ⟨rfl,rfl⟩;rw [hn]))
       go_ret
       exact ⟨rfl,rfl⟩
   ·rw [if_neg n0]
    have nb:(x.n != 0)=true:=by simpa using n0
    clear n0
    go_enter Tryz.func74,Tryz.ntmps74
    go_wp2_with (first | (go_at_call 51;refine (qX8 _ _ _ _).mono ?_;rintro e w' ⟨rfl,rfl⟩;rw [hk]))
    go_ret
    exact ⟨rfl,rfl⟩

structure qC2 (lo hi:Nat) (P:World→Prop) (W:World):Prop where
 out:P W
 le:hi≤W.heap.size
 kept:∀ X X':World,P X→(∀ b,lo≤b→b < hi→X'.heap[b]? = X.heap[b]?)→P X'
theorem qC2.below {lo hi:Nat} {P:World→Prop} {W W':World} (h:qC2 lo hi P W) (hb:Below W.heap.size W W'):qC2 lo hi P W' :=
 ⟨h.kept _ _ h.out (fun b _ h2=>hb.block b (Nat.lt_of_lt_of_le h2 h.le)),Nat.le_trans h.le hb.size,h.kept⟩
theorem qC2.alloc {lo hi:Nat} {P:World→Prop} {W:World} (h:qC2 lo hi P W) (o:Obj):qC2 lo hi P (W.alloc o):=h.below (zN)
structure Chg (lo hi:Nat) (W W':World):Prop where
 below:∀ B,B≤lo→B≤W.heap.size→Below B W W'
 size:W.heap.size≤W'.heap.size
 block:∀ b,b < W.heap.size→(b < lo∨hi≤b)→W'.heap[b]? = W.heap[b]?
theorem Chg.grown {lo hi:Nat} {W W':World} {row:Option Nat} (hg:W.grownBy W' row) (h:∀ q,row=some q→lo≤q∧q < hi):Chg lo hi W W' :=
 ⟨fun B h1 h2=>(Below.refl _ _).grown hg h2 (fun q e=>Nat.le_trans h1 (h q e).1),hg.size,fun b h1 h2=>hg.block b h1 (fun e=>by have:=h b e.symm;omega)⟩
theorem Chg.calls {lo hi:Nat} {W W':World} (hb:Below W.heap.size W W'):Chg lo hi W W' :=
 ⟨fun B h1 h2=>hb.mono h2,hb.size,fun b h1 h2=>hb.block b h1⟩
theorem Chg.trans {lo hi:Nat} {A B C:World} (h:Chg lo hi A B) (k:Chg lo hi B C):Chg lo hi A C :=
 ⟨fun b h1 h2=>(h.below b h1 h2).trans (k.below b h1 (Nat.le_trans h2 h.size)),Nat.le_trans h.size k.size,fun b h1 h2=>(k.block b (Nat.lt_of_lt_of_le h1 h.size) h2).trans (h.block b h1 h2)⟩
theorem qC2.chg {lo hi l r:Nat} {P:World→Prop} {W W':World} (h:qC2 lo hi P W) (c:Chg l r W W') (d:hi≤l∨r≤lo):qC2 lo hi P W' :=
 ⟨h.kept _ _ h.out (fun b h1 h2=>c.block b (Nat.lt_of_lt_of_le h2 h.le) (by omega)),Nat.le_trans h.le c.size,h.kept⟩
theorem QN7 {B l r:Nat} {w W W':World} (h:Below B w W) (c:Chg l r W W') (h1:B≤l) (h2:B≤W.heap.size):Below B w W':=h.trans (c.below B h1 h2)
theorem qL4 {W w:World} (h:(∀ b o,b < W.heap.size→w.cell? ⟨b,o,none⟩=W.cell? ⟨b,o,none⟩)∧Below W.heap.size W w) (o:Obj):(∀ b i,b < W.heap.size→(w.alloc o).cell? ⟨b,i,none⟩=W.cell? ⟨b,i,none⟩)∧Below W.heap.size W (w.alloc o) :=
 ⟨fun b i hb=>(((Below.refl w.heap.size w).alloc (Nat.le_refl _) o).cell (p:=⟨b,i,none⟩) (Nat.lt_of_lt_of_le hb h.2.size)).trans (h.1 b i hb),h.2.alloc h.2.size _⟩
theorem qB9 {W w:World} (h:(∀ b o,b < W.heap.size→w.cell? ⟨b,o,none⟩=W.cell? ⟨b,o,none⟩)∧Below W.heap.size W w) {p:Addr} (hp:W.heap.size≤p.block) (v:Value):(∀ b i,b < W.heap.size→(w.setCell p v).cell? ⟨b,i,none⟩=W.cell? ⟨b,i,none⟩)∧Below W.heap.size W (w.setCell p v) :=
 ⟨fun b i hb=>by
  have hne:p≠⟨b,i,none⟩:=fun e=>by rw [e] at hp;simp only at hp;omega
  rw [World.cell?_setCell_other (h:=hne)]
  exact h.1 b i hb,h.2.setCell hp _⟩
def qE8 (b:Nat) (vs:List Value) (X:World):Prop:=∀ j v,vs[j]? = some v→X.cell? ⟨b,j,none⟩=some v
theorem qE8.hold {b:Nat} {vs:List Value} {W:World} (h:qE8 b vs W) (hb:b < W.heap.size):qC2 b (b+1) (qE8 b vs) W :=
 ⟨h,hb,fun X X' hX hk j v e=>(World.cell?_of_block (w:=X) (w':=X') (a:=⟨b,j,none⟩) (hk b (Nat.le_refl _) (by omega))).trans (hX j v e)⟩
theorem qF2 (W:World) (cs:Array Value) (t:TypeId):qC2 W.heap.size (W.heap.size+1) (qE8 W.heap.size cs.toList) (W.alloc (.cells cs t)):=by
 refine qE8.hold (fun j v e=>?_) (by simp)
 have h:(W.alloc (.cells cs t)).heap[W.heap.size]? = some (.cells cs t):=by show (W.heap.push _)[W.heap.size]? = _;simp
 unfold World.cell?
 simp only
 rw [h]
 simpa using e
def qG2 (b:Nat) (vs:List Value) (X:World):Prop:=qE8 b vs X∧(∀ j,X.frozen? ⟨b,j,none⟩=false)
theorem qG2.hold {b:Nat} {vs:List Value} {W:World} (h:qG2 b vs W) (hb:b < W.heap.size):qC2 b (b+1) (qG2 b vs) W :=
 ⟨h,hb,fun X X' hX hk=>⟨(qE8.hold h.1 hb).kept X X' hX.1 hk,fun j=>(World.frozen?_of_block (w:=X) (w':=X') (a:=⟨b,j,none⟩) (hk b (Nat.le_refl _) (by omega))).trans (hX.2 j)⟩⟩
theorem qG2.below {b:Nat} {vs:List Value} {W W':World} (h:qG2 b vs W) (hb:b < W.heap.size) (hw:Below W.heap.size W W'):qG2 b vs W':=((h.hold hb).below hw).out
theorem qE0 (W:World) (cs:Array Value) (t:TypeId):qG2 W.heap.size cs.toList (W.alloc (.cells cs t)) :=
 ⟨(qF2 W cs t).out,fun j=>by
  have h:(W.alloc (.cells cs t)).heap[W.heap.size]? = some (.cells cs t):=by show (W.heap.push _)[W.heap.size]? = _;simp
  unfold World.frozen?
  simp only
  rw [h]
  simp⟩
theorem qG2.put {b:Nat} {vs:List Value} {X:World} (h:qG2 b vs X) (j:Nat) (hj:j < vs.length) (v:Value):qG2 b (vs.set j v) (X.setCell ⟨b,j,none⟩ v):=by
 refine ⟨fun i u e=>?_,fun i=>by rw [World.frozen?_setCell];exact h.2 i⟩
 by_cases q:i=j
 ·subst q
  rw [List.getElem?_set_self hj] at e
  have hc:=h.1 i _ (List.getElem?_eq_getElem hj)
  cases e
  simp [go_sem,hc]
 ·rw [List.getElem?_set_ne (Ne.symm q)] at e
  rw [World.cell?_setCell_other (h:=fun e=>q (by have:=congrArg Addr.off e;simp at this;omega))]
  exact h.1 i u e
theorem qG2.other {b:Nat} {vs:List Value} {X:World} (h:qG2 b vs X) {p:Addr} (hp:p.block≠b) (v:Value):qG2 b vs (X.setCell p v):=by
 refine ⟨fun i u e=>?_,fun i=>by rw [World.frozen?_setCell];exact h.2 i⟩
 rw [World.cell?_setCell_other (h:=fun e=>hp (by rw [e]))]
 exact h.1 i u e
theorem qA2 {X X':World} {B:Nat} {t:TypeId} {sz:Nat} {v:Value} {n:Nat} {xs:List Value} (h:X.ownsRow B t sz v n xs) (hk:∀ g,v.ownBlock=some g→X'.heap[g]? = X.heap[g]?):X'.ownsRow B t sz v n xs:=by
 refine ⟨h.1,?_⟩
 rcases h.2 with q | ⟨g,cap,cur,e,hg,hb,rest⟩
 ·exact .inl q
 ·exact .inr ⟨g,cap,cur,e,hg,(hk g (by rw [e];rfl)).trans hb,rest⟩
theorem qY5 {W:World} {B:Nat} {t:TypeId} {sz:Nat} {v:Value} {n:Nat} {xs:List Value} (h:W.ownsRow B t sz v n xs) (hi:Nat) (h1:∀ g,v.ownBlock=some g→g < hi) (h2:hi≤W.heap.size):qC2 B hi (fun X=>X.ownsRow B t sz v n xs) W :=
 ⟨h,h2,fun X X' hX hk=>qA2 hX (fun g e=>hk g (hX.lt g e).1 (h1 g e))⟩
theorem QR0 {W:World} {B:Nat} {t:TypeId} {sz:Nat} {v:Value} {n:Nat} {xs:List Value} (h:W.ownsRow B t sz v n xs):qC2 B W.heap.size (fun X=>X.ownsRow B t sz v n xs) W:=qY5 h _ (fun g e=>(h.lt g e).2) (Nat.le_refl _)

end Go.Proofs.YtlhgjackapdmbaaGreatDoor
