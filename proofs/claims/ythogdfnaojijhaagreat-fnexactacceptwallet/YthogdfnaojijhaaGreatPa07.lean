/- Contracts. -/
import Derived.Test.YthogdfnaojijhaaGreatPa06
import Derived.Test.YthogdfnaojijhaaGreatPa04
namespace Go.Proofs.YthogdfnaojijhaaGreat
set_option maxRecDepth 100000
set_option maxHeartbeats 8000000
open Go.RowKit
set_option linter.unusedVariables false
set_option linter.unusedSimpArgs false

theorem Tryz.info149:(Tryz.prog.info? 149).map (fun i=>(i.zero,i.size,i.bytes))=some (some (.agg #[.int .i64 0,.int .i64 0,.int .i64 0,.int .i64 0,.int .i64 0,.int .i64 0,.int .i64 0,.int .i64 0]),8,64):=by kernel_rfl
def qH3 (w:World) (g n:Nat):Prop:=(∀ j,j < n * 8→∃ v,w.cell? ⟨g,j,none⟩=some v)∧∀ j,w.frozen? ⟨g,j,none⟩=false
abbrev put8 (w:World) (g o:Nat) (s:qA0):World:=((((((((w.setCell ⟨g,o,none⟩ (.int .i64 s.k)).setCell ⟨g,o+1,none⟩ (.int .i64 s.ho)).setCell ⟨g,o+2,none⟩ (.int .i64 s.hn)).setCell ⟨g,o+3,none⟩ (.int .i64 s.w)).setCell ⟨g,o+4,none⟩ (.int .i64 s.oo)).setCell ⟨g,o+5,none⟩ (.int .i64 s.on)).setCell ⟨g,o+6,none⟩ (.int .i64 s.to)).setCell ⟨g,o+7,none⟩ (.int .i64 s.tn))
theorem qF0 (w:World) (g o:Nat) (s:qA0) (a:Addr) (h:∀ j,j < 8→a≠⟨g,o+j,none⟩):(put8 w g o s).cell? a=w.cell? a:=by
 rw [World.cell?_setCell_other (h:=Ne.symm (h 7 (by omega))),World.cell?_setCell_other (h:=Ne.symm (h 6 (by omega))),World.cell?_setCell_other (h:=Ne.symm (h 5 (by omega))),World.cell?_setCell_other (h:=Ne.symm (h 4 (by omega))),World.cell?_setCell_other (h:=Ne.symm (h 3 (by omega))),World.cell?_setCell_other (h:=Ne.symm (h 2 (by omega))),World.cell?_setCell_other (h:=Ne.symm (h 1 (by omega))),World.cell?_setCell_other (h:=Ne.symm (a:=a) (b:=⟨g,o,none⟩) (by simpa using h 0 (by omega)))]
theorem put8_rule (w:World) (g o:Nat) (s:qA0) (h:∀ j,j < 8→∃ v,w.cell? ⟨g,o+j,none⟩=some v):qB0 (put8 w g o s) g o s:=by
 obtain ⟨v0,h0⟩:=h 0 (by omega)
 obtain ⟨v1,h1⟩:=h 1 (by omega)
 obtain ⟨v2,h2⟩:=h 2 (by omega)
 obtain ⟨v3,h3⟩:=h 3 (by omega)
 obtain ⟨v4,h4⟩:=h 4 (by omega)
 obtain ⟨v5,h5⟩:=h 5 (by omega)
 obtain ⟨v6,h6⟩:=h 6 (by omega)
 obtain ⟨v7,h7⟩:=h 7 (by omega)
 rw [Nat.add_zero] at h0
 refine ⟨?_,?_,?_,?_,?_,?_,?_,?_⟩ <;> simp [go_sem,h0,h1,h2,h3,h4,h5,h6,h7]
theorem QL1 {w:World} {g n k:Nat} {zs:List qA0} {s:qA0} (hroom:qH3 w g n) (hd:qF7 w g 0 (zs.take k)) (hs:zs[k]? = some s) (hk:k < n) :
  qH3 (put8 w g (k * 8) s) g n∧qF7 (put8 w g (k * 8) s) g 0 (zs.take (k+1)):=by
 have hr:=put8_rule w g (k * 8) s (fun j hj=>hroom.1 (k * 8+j) (by omega))
 refine ⟨⟨fun j hj=>?_,fun j=>?_⟩,fun i r e=>?_⟩
 ·by_cases h:k * 8≤j∧j < k * 8+8
  ·have hj':j=k * 8∨j=k * 8+1∨j=k * 8+2∨j=k * 8+3∨j=k * 8+4∨j=k * 8+5∨j=k * 8+6∨j=k * 8+7:=by omega
   obtain ⟨h0,h1,h2,h3,h4,h5,h6,h7⟩:=hr
   rcases hj' with rfl | rfl | rfl | rfl | rfl | rfl | rfl | rfl
   ·exact ⟨_,h0⟩
   ·exact ⟨_,h1⟩
   ·exact ⟨_,h2⟩
   ·exact ⟨_,h3⟩
   ·exact ⟨_,h4⟩
   ·exact ⟨_,h5⟩
   ·exact ⟨_,h6⟩
   ·exact ⟨_,h7⟩
  ·rw [qF0 w g (k * 8) s ⟨g,j,none⟩ (fun i hi e=>by have e2:=congrArg Addr.off e;simp only at e2;omega)]
   exact hroom.1 j hj
 ·simp only [World.frozen?_setCell]
  exact hroom.2 j
 ·rw [List.getElem?_take] at e
  split at e
  ·by_cases hik:i=k
   ·subst hik
    rw [hs] at e
    cases e
    rw [Nat.zero_add]
    exact hr
   ·have hi:i < k:=by omega
    have h1:=hd i r (by rw [List.getElem?_take,if_pos hi];exact e)
    obtain ⟨h0,h1,h2,h3,h4,h5,h6,h7⟩:=h1
    refine ⟨?_,?_,?_,?_,?_,?_,?_,?_⟩
    ·rw [qF0 w g (k * 8) s ⟨g,0+i * 8,none⟩ (fun j hj e=>by have e2:=congrArg Addr.off e;simp only at e2;omega)];exact h0
    ·rw [qF0 w g (k * 8) s ⟨g,0+i * 8+1,none⟩ (fun j hj e=>by have e2:=congrArg Addr.off e;simp only at e2;omega)];exact h1
    ·rw [qF0 w g (k * 8) s ⟨g,0+i * 8+2,none⟩ (fun j hj e=>by have e2:=congrArg Addr.off e;simp only at e2;omega)];exact h2
    ·rw [qF0 w g (k * 8) s ⟨g,0+i * 8+3,none⟩ (fun j hj e=>by have e2:=congrArg Addr.off e;simp only at e2;omega)];exact h3
    ·rw [qF0 w g (k * 8) s ⟨g,0+i * 8+4,none⟩ (fun j hj e=>by have e2:=congrArg Addr.off e;simp only at e2;omega)];exact h4
    ·rw [qF0 w g (k * 8) s ⟨g,0+i * 8+5,none⟩ (fun j hj e=>by have e2:=congrArg Addr.off e;simp only at e2;omega)];exact h5
    ·rw [qF0 w g (k * 8) s ⟨g,0+i * 8+6,none⟩ (fun j hj e=>by have e2:=congrArg Addr.off e;simp only at e2;omega)];exact h6
    ·rw [qF0 w g (k * 8) s ⟨g,0+i * 8+7,none⟩ (fun j hj e=>by have e2:=congrArg Addr.off e;simp only at e2;omega)];exact h7
  ·cases e
theorem QD7 {w0 w:World} {B g o:Nat} (h:Below B w0 w) (hg:B≤g) (s:qA0):Below B w0 (put8 w g o s) :=
 h.setCell hg _ |>.setCell hg _ |>.setCell hg _ |>.setCell hg _ |>.setCell hg _ |>.setCell hg _ |>.setCell hg _ |>.setCell hg _
theorem QK1 (a:Option Addr) (n cap:Nat) (zs:List qA0) (w:World) (hn:n≤1048576) (h:qA4 w a n zs) :
  Calls Tryz.prog 69 #[.slice a n cap] w fun e w'=>e = .returned (.slice (some ⟨w.heap.size,0,none⟩) n n)∧qF7 w' w.heap.size 0 zs∧w.heap.size < w'.heap.size∧Below w.heap.size w w'∧qH3 w' w.heap.size n:=by
 obtain ⟨i0,hi,hz0,hz1,hz2⟩:=info_parts Tryz.info149
 obtain ⟨wm,hmk,hownm,hgrm⟩:=run_make_full (P:=Tryz.prog) (w:=w) w.heap.size 69 149 i0 (.agg #[.int .i64 0,.int .i64 0,.int .i64 0,.int .i64 0,.int .i64 0,.int .i64 0,.int .i64 0,.int .i64 0]) 8 Tryz.underlying69 hi hz0 hz1 .i64 .i64 n (by rw [hz2];omega) (by unfold maxLen;omega) (Nat.le_refl _)
 have H:Hid (qA4 w a n zs):=h
 have hz:Hid (zs.length=n):=h.1
 clear h
 have HM:Hid (qH3 wm w.heap.size n∧w.heap.size < wm.heap.size):=by
  refine ⟨⟨fun j hj=>?_,fun j=>hownm.frozenAt j⟩,(hownm.lt _ rfl).2⟩
  have hl:=hownm.1
  exact ⟨_,(hownm.cellAt j hj).trans (List.getElem?_eq_getElem (by omega))⟩
 clear hownm
 have HG:Hid (w.grownBy wm none):=hgrm
 clear hgrm
 have hn':(n:Int)≤1048576:=by omega
 go_enter Tryz.func69,Tryz.ntmps69
 go_wp2
 go_loopw [4] (fun i wr=>∃ k:Nat,k≤n∧i = .int .i64 (k:Int)∧qH3 wr w.heap.size n∧qF7 wr w.heap.size 0 (zs.take k)∧w.heap.size < wr.heap.size∧Below w.heap.size w wr)
  (fun i _=>n - (intOf i).toNat)
 case atStart=>exact ⟨0,Nat.zero_le _,rfl,HM.out.1,fun k r e=>by simp at e,HM.out.2,(Below.refl _ _).grown HG.out (Nat.le_refl _) (fun k e=>by cases e)⟩
 case round =>
  obtain ⟨k,hk,rfl,hroom,hdone,hlt0,hnx⟩:=hrel
  by_cases hlt:k < n
  ·obtain ⟨b,off,s,rfl,hs,hr⟩:=H.out.at hlt
   have HS:Hid (zs[k]? = some s):=hs
   clear hs
   have hb:b < w.heap.size:=zL w ⟨b,off+k * 8,none⟩ hr.1
   have hr':=hr.below hnx
   have HD:Hid (qH3 wr w.heap.size n∧qF7 wr w.heap.size 0 (zs.take k)):=⟨hroom,hdone⟩
   obtain ⟨h0,h1,h2,h3,h4,h5,h6,h7⟩:=hr'
   clear hroom hdone hr
   have hlt':(k:Int) < (n:Int):=by omega
   go_wp2_with fail
   refine (toRule_c s _).mono ?_
   rintro e w1 ⟨rfl,hb1⟩
   obtain ⟨⟨hc,hf⟩,hd⟩:=HD.out
   have hz1:=hb1.size
   have HD1:Hid (qH3 w1 w.heap.size n∧qF7 w1 w.heap.size 0 (zs.take k)∧Below w.heap.size w w1) :=
    ⟨⟨fun j hj=>by obtain ⟨v,e⟩:=hc j hj;exact ⟨v,(hb1.cell (p:=⟨w.heap.size,j,none⟩) hlt0).trans e⟩,fun j=>(hb1.frozen (p:=⟨w.heap.size,j,none⟩) hlt0).trans (hf j)⟩,hd.below hb1,hnx.trans (hb1.mono hnx.size)⟩
   clear hc hf hd HD h0 h1 h2 h3 h4 h5 h6 h7
   obtain ⟨v0,c0⟩:=HD1.out.1.1 (k * 8) (by omega)
   obtain ⟨v1,c1⟩:=HD1.out.1.1 (k * 8+1) (by omega)
   obtain ⟨v2,c2⟩:=HD1.out.1.1 (k * 8+2) (by omega)
   obtain ⟨v3,c3⟩:=HD1.out.1.1 (k * 8+3) (by omega)
   obtain ⟨v4,c4⟩:=HD1.out.1.1 (k * 8+4) (by omega)
   obtain ⟨v5,c5⟩:=HD1.out.1.1 (k * 8+5) (by omega)
   obtain ⟨v6,c6⟩:=HD1.out.1.1 (k * 8+6) (by omega)
   obtain ⟨v7,c7⟩:=HD1.out.1.1 (k * 8+7) (by omega)
   have f0:=HD1.out.1.2 (k * 8)
   have f1:=HD1.out.1.2 (k * 8+1)
   have f2:=HD1.out.1.2 (k * 8+2)
   have f3:=HD1.out.1.2 (k * 8+3)
   have f4:=HD1.out.1.2 (k * 8+4)
   have f5:=HD1.out.1.2 (k * 8+5)
   have f6:=HD1.out.1.2 (k * 8+6)
   have f7:=HD1.out.1.2 (k * 8+7)
   have RM:Hid (qH3 (put8 w1 w.heap.size (k * 8) s) w.heap.size n∧qF7 (put8 w1 w.heap.size (k * 8) s) w.heap.size 0 (zs.take (k+1))∧Below w.heap.size w (put8 w1 w.heap.size (k * 8) s)):=by
    have h2:=QL1 HD1.out.1 HD1.out.2.1 HS.out hlt
    exact ⟨h2.1,h2.2,QD7 HD1.out.2.2 (Nat.le_refl _) s⟩
   go_wp2
   exact ⟨⟨k+1,by omega,by go_num,RM.out.1,RM.out.2.1,by simp only [World.size_setCell];omega,RM.out.2.2⟩,by simp [intOf];omega⟩
  ·have hkn:k=n:=by omega
   subst hkn
   rw [List.take_of_length_le (by rw [hz.out];exact Nat.le_refl _)] at hdone
   go_wp2
   go_ret
   exact ⟨rfl,hdone,hlt0,hnx,hroom⟩
theorem QR9 (r:qA0) (w:World) :
  Calls Tryz.prog 124 #[.agg #[.int .i64 r.k,.int .i64 r.ho,.int .i64 r.hn,.int .i64 r.w,.int .i64 r.oo,.int .i64 r.on,.int .i64 r.to,.int .i64 r.tn],.agg #[.int .i64 r.k,.int .i64 r.ho,.int .i64 r.hn,.int .i64 r.w,.int .i64 r.oo,.int .i64 r.on,.int .i64 r.to,.int .i64 r.tn]] w fun e w'=>e = .returned (.bool true)∧Below w.heap.size w w':=by
 go_enter Tryz.func124,Tryz.ntmps124
 go_wp2
 go_ret
 exact ⟨rfl,by go_grown⟩
theorem QN5 (a b:Option Addr) (n c d:Nat) (zs:List qA0) (w:World) (hn:n≤1048576) (ha:qA4 w a n zs) (hb:qA4 w b n zs) :
  Calls Tryz.prog 82 #[.slice a n c,.slice b n d] w fun e w'=>e = .returned (.bool true)∧Below w.heap.size w w':=by
 have HA:Hid (qA4 w a n zs):=ha
 have HB:Hid (qA4 w b n zs):=hb
 clear ha hb
 have hn':(n:Int)≤1048576:=by omega
 go_enter Tryz.func82,Tryz.ntmps82
 go_wp2
 go_loopw [5] (fun i wr=>∃ k:Nat,k≤n∧i = .int .i64 (k:Int)∧Below w.heap.size w wr) (fun i _=>n - (intOf i).toNat)
 case atStart=>exact ⟨0,Nat.zero_le _,rfl,Below.refl _ _⟩
 case round =>
  obtain ⟨k,hk,rfl,hnx⟩:=hrel
  by_cases hlt:k < n
  ·obtain ⟨b1,o1,s,e1,hs,hr⟩:=HA.out.at hlt
   obtain ⟨b2,o2,s2,e2,hs2,hr2⟩:=HB.out.at hlt
   obtain rfl:s=s2:=Option.some.inj (hs.symm.trans hs2)
   subst e1 e2
   clear hs hs2
   obtain ⟨h0,h1,h2,h3,h4,h5,h6,h7⟩:=hr.below hnx
   obtain ⟨g0,g1,g2,g3,g4,g5,g6,g7⟩:=hr2.below hnx
   clear hr hr2
   have hlt':(k:Int) < (n:Int):=by omega
   have hb1:b1 < wr.heap.size:=zL wr ⟨b1,o1+k * 8,none⟩ h0
   have hb2:b2 < wr.heap.size:=zL wr ⟨b2,o2+k * 8,none⟩ g0
   go_wp2
   go_region_held3 (fun w'=>(∀ b o,b < wr.heap.size→w'.cell? ⟨b,o,none⟩=wr.cell? ⟨b,o,none⟩)∧Below wr.heap.size wr w') (first | exact hS | exact qB6 _)
    (first | (go_at_call 124;refine (QR9 s _).mono ?_;rintro e w' ⟨rfl,hb1⟩;have hS:=qA8 (by assumption) hb1))
   go_wp2
   exact ⟨⟨k+1,by omega,by go_num,hnx.trans (hS.2.mono hnx.size)⟩,by simp [intOf];omega⟩
  ·have hkn:k=n:=by omega
   subst hkn
   go_wp2
   go_ret
   exact ⟨rfl,hnx⟩

theorem grown_set (w:World) (g j:Nat) (v:Value):w.grownBy (w.setCell ⟨g,j,none⟩ v) (some g) :=
 ⟨rfl,rfl,rfl,by simp [World.setCell],fun k _ hk=>Below.heap_setCell _ _ _ _ (fun e=>hk (by rw [e]))⟩

def qC1 (w:World) (a:Option Addr) (n:Nat) (zs:List Int):Prop:=zs.length=n∧(0 < n→∃ b off,a=some ⟨b,off,none⟩∧∀ k x,zs[k]? = some x→w.cell? ⟨b,off+k,none⟩=some (.int .i64 x))
theorem qC1.below {w w':World} {a:Option Addr} {n:Nat} {zs:List Int} (h:qC1 w a n zs) (hb:Below w.heap.size w w'):qC1 w' a n zs:=by
 refine ⟨h.1,fun hn=>?_⟩
 obtain ⟨b,off,e,k⟩:=h.2 hn
 exact ⟨b,off,e,fun j x hx=>(hb.cell (p:=⟨b,off+j,none⟩) (zL w ⟨b,off+j,none⟩ (k j x hx))).trans (k j x hx)⟩
theorem qC1.at {w:World} {a:Option Addr} {n:Nat} {zs:List Int} (h:qC1 w a n zs) {k:Nat} (hk:k < n):∃ b off x,a=some ⟨b,off,none⟩∧zs[k]? = some x∧w.cell? ⟨b,off+k,none⟩=some (.int .i64 x)∧b < w.heap.size:=by
 obtain ⟨b,off,e,q⟩:=h.2 (by omega)
 have hx:=List.getElem?_eq_getElem (l:=zs) (i:=k) (by rw [h.1];exact hk)
 exact ⟨b,off,_,e,hx,q k _ hx,zL w ⟨b,off+k,none⟩ (q k _ hx)⟩
theorem qC1.row {w:World} {a:Option Addr} {n:Nat} {zs:List Int} (h:qC1 w a n zs):RowIn w a n zs:=by
 refine ⟨by rw [h.1];exact Nat.le_refl _,fun k hk=>?_⟩
 obtain ⟨b,off,x,e,hx,hc,_⟩:=h.at hk
 exact ⟨b,off,e,by rw [hx];exact hc⟩
def QX3 (w:World) (g:Nat) (zs:List Int):Prop:=∀ k x,zs[k]? = some x→w.cell? ⟨g,k,none⟩=some (.int .i64 x)
theorem qC1.of {w:World} {g n:Nat} {zs:List Int} (hl:zs.length=n) (h:QX3 w g zs):qC1 w (some ⟨g,0,none⟩) n zs :=
 ⟨hl,fun _=>⟨g,0,rfl,fun k x e=>by rw [Nat.zero_add];exact h k x e⟩⟩
def qE0 (w:World) (g n:Nat):Prop:=(∀ j,j < n→∃ v,w.cell? ⟨g,j,none⟩=some v)∧∀ j,w.frozen? ⟨g,j,none⟩=false
theorem qE0.below {w w':World} {g n:Nat} (h:qE0 w g n) (hg:g < w.heap.size) (hb:Below w.heap.size w w'):qE0 w' g n :=
 ⟨fun j hj=>by obtain ⟨v,e⟩:=h.1 j hj;exact ⟨v,(hb.cell (p:=⟨g,j,none⟩) hg).trans e⟩,fun j=>(hb.frozen (p:=⟨g,j,none⟩) hg).trans (h.2 j)⟩
theorem qE0.set {w:World} {g n:Nat} (h:qE0 w g n) (o:Nat) (v:Value):qE0 (w.setCell ⟨g,o,none⟩ v) g n:=by
 refine ⟨fun j hj=>?_,fun j=>by simp only [World.frozen?_setCell];exact h.2 j⟩
 obtain ⟨u,e⟩:=h.1 j hj
 by_cases q:j=o
 ·subst q
  exact ⟨v,by simp [go_sem,e]⟩
 ·exact ⟨u,by rw [World.cell?_setCell_other (h:=fun e=>q (by have:=congrArg Addr.off e;simp at this;omega))];exact e⟩
theorem qY1 (a:Option Addr) (n cap:Nat) (zs:List Int) (w:World) (hn:n≤1048576) (h:qC1 w a n zs) :
  Calls Tryz.prog 71 #[.slice a n cap] w fun e w'=>e = .returned (.slice (some ⟨w.heap.size,0,none⟩) n n)∧QX3 w' w.heap.size zs∧w.heap.size < w'.heap.size∧Below w.heap.size w w'∧qE0 w' w.heap.size n:=by
 refine (toS_c a n cap zs w hn h.row).mono ?_
 rintro e w' ⟨rfl,hown,hb⟩
 have hz:zs.length=n:=h.1
 have hl:=hown.1
 refine ⟨rfl,fun k x hx=>?_,owned_lt hown,hb,fun j hj=>⟨_,(hown.cellAt j (by omega)).trans (List.getElem?_eq_getElem (by omega))⟩,fun j=>hown.frozenAt j⟩
 have hk:k < n:=by
  by_cases q:k < n
  ·exact q
  ·rw [List.getElem?_eq_none (by omega)] at hx;cases hx
 have:=QQ5 hown (by omega) k hk
 rw [hx] at this
 exact this
theorem qW4 (a b:Option Addr) (n c d:Nat) (zs:List Int) (w:World) (hn:n≤1048576) (ha:qC1 w a n zs) (hb:qC1 w b n zs) :
  Calls Tryz.prog 84 #[.slice a n c,.slice b n d] w fun e w'=>e = .returned (.bool true)∧Below w.heap.size w w' :=
 eqS_same a b n c d zs w hn ha.row.2 hb.row.2

structure LkI where
 e:Int
 c:Int
 p:Int
 f:Int
deriving DecidableEq,Inhabited

def inR (v lo hi:Int):Bool:=decide (lo≤v)&&decide (v≤hi)
def cmpJ (x y:Int):Int:=if x < y then -1 else if y < x then 1 else 0
def orJ (c d:Int):Int:=if c=0 then d else c
def cfL (x y:LkI):Int:=orJ (cmpJ x.e y.e) (orJ (cmpJ x.c y.c) (cmpJ x.p y.p))

def qE8 (zs:List Int):Int:=if 4 < zs.length then 2 else if zs.all (fun c=>inR c 0 15)=true then 0 else 3
theorem qV7 {zs:List Int} {k:Nat} {x:Int} (hl:zs.length≤4) (hx:zs[k]? = some x) (hb:inR x 0 15=false):qE8 zs=3:=by
 unfold qE8
 rw [if_neg (by omega),if_neg]
 intro h
 have:=List.all_eq_true.1 h x (List.mem_of_getElem? hx)
 rw [hb] at this
 cases this
theorem QO1 {zs:List Int} (hl:zs.length≤4) (h:∀ (k:Nat) (x:Int),k < zs.length→zs[k]? = some x→inR x 0 15=true):qE8 zs=0:=by
 unfold qE8
 rw [if_neg (by omega),if_pos]
 refine List.all_eq_true.2 (fun x hx=>?_)
 obtain ⟨k,hk⟩:=List.mem_iff_getElem?.1 hx
 exact h k x (by
  by_cases q:k < zs.length
  ·exact q
  ·rw [List.getElem?_eq_none (by omega)] at hk;cases hk) hk
theorem qD2 (v lo hi:Int):inR v lo hi=true↔lo≤v∧v≤hi:=by simp [inR]
theorem qL2 (v lo hi:Int) (w:World):Calls Tryz.prog 65 #[.int .i64 v,.int .i64 lo,.int .i64 hi] w fun e w'=>e = .returned (.bool (inR v lo hi))∧w=w':=by
 unfold inR
 cases h0:decide (lo≤v)
 ·go_enter Tryz.func65,Tryz.ntmps65
  go_wp2
  go_ret
  exact ⟨by simp,rfl⟩
 ·cases h1:decide (v≤hi)
  all_goals
   go_enter Tryz.func65,Tryz.ntmps65
   go_wp2
   go_ret
   exact ⟨by simp,rfl⟩
theorem sForm_c (v:Int) (w:World):Calls Tryz.prog 67 #[.int .i64 v] w fun e w'=>e = .returned (.bool (inR v 1 4))∧w=w':=by
 go_enter Tryz.func67,Tryz.ntmps67
 go_wp2_with (go_at_call 65;refine (qL2 _ _ _ _).mono ?_;rintro e w' ⟨rfl,rfl⟩)
 go_ret
 exact ⟨rfl,rfl⟩
theorem qL7 (v:Int) (w:World):Calls Tryz.prog 66 #[.int .i64 v] w fun e w'=>e = .returned (.bool (inR v 1 9))∧w=w':=by
 go_enter Tryz.func66,Tryz.ntmps66
 go_wp2_with (go_at_call 65;refine (qL2 _ _ _ _).mono ?_;rintro e w' ⟨rfl,rfl⟩)
 go_ret
 exact ⟨rfl,rfl⟩
theorem QR6 (v:Int) (w:World):Calls Tryz.prog 146 #[.int .i64 v] w fun e w'=>e = .returned (.bool (inR v 1 4))∧w=w':=by
 unfold inR
 cases h0:decide (1≤v)
 ·go_enter Tryz.func146,Tryz.ntmps146
  go_wp2
  go_ret
  exact ⟨by simp,rfl⟩
 ·cases h1:decide (v≤4)
  all_goals
   go_enter Tryz.func146,Tryz.ntmps146
   go_wp2
   go_ret
   exact ⟨by simp,rfl⟩
theorem qM0 (v:Int) (w:World):Calls Tryz.prog 145 #[.int .i64 v] w fun e w'=>e = .returned (.bool (inR v 1 9))∧w=w':=by
 unfold inR
 cases h0:decide (1≤v)
 ·go_enter Tryz.func145,Tryz.ntmps145
  go_wp2
  go_ret
  exact ⟨by simp,rfl⟩
 ·cases h1:decide (v≤9)
  all_goals
   go_enter Tryz.func145,Tryz.ntmps145
   go_wp2
   go_ret
   exact ⟨by simp,rfl⟩
theorem qU3 (a:Option Addr) (n cap:Nat) (zs:List Int) (w:World) (h:qC1 w a n zs) :
  Calls Tryz.prog 177 #[.slice a n cap] w fun e w'=>e = .returned (.int .i64 (qE8 zs))∧w=w':=by
 have HZ:Hid (zs.length=n):=h.1
 have HI:Hid (qC1 w a n zs):=h
 clear h
 by_cases h4:4 < n
 ·have hc:qE8 zs=2:=by unfold qE8;rw [if_pos (by rw [HZ.out];exact h4)]
  rw [hc]
  clear hc
  have h4':(4:Int) < (n:Int):=by omega
  go_enter Tryz.func177,Tryz.ntmps177
  go_wp2
  go_ret
  exact ⟨rfl,rfl⟩
 ·have h4':(n:Int)≤4:=by omega
  go_enter Tryz.func177,Tryz.ntmps177
  go_wp2
  go_loop [10] (fun i=>∃ k:Nat,k≤n∧i = .int .i64 (k:Int)∧∀ (j:Nat) (x:Int),j < k→zs[j]? = some x→inR x 0 15=true) (fun i=>n - (intOf i).toNat)
  case atStart=>exact ⟨0,Nat.zero_le _,rfl,fun j x hj=>by omega⟩
  case round =>
   obtain ⟨k,hk,rfl,hok⟩:=hrel
   have HOK:Hid (∀ (j:Nat) (x:Int),j < k→zs[j]? = some x→inR x 0 15=true):=hok
   clear hok
   by_cases hlt:k < n
   ·obtain ⟨b,off,x,e,hx,hc,hb⟩:=HI.out.at hlt
    subst e
    have HX:Hid (zs[k]? = some x):=hx
    clear hx
    have hlt':(k:Int) < (n:Int):=by omega
    by_cases q0:x < 0
    ·have HB:Hid (qE8 zs=3):=qV7 (by rw [HZ.out];omega) HX.out (by simp [inR];omega)
     go_wp2
     go_ret
     exact ⟨by rw [HB.out];rfl,rfl⟩
    ·by_cases q1:16≤x
     ·have HB:Hid (qE8 zs=3):=qV7 (by rw [HZ.out];omega) HX.out (by simp [inR];omega)
      go_wp2
      go_ret
      exact ⟨by rw [HB.out];rfl,rfl⟩
     ·have HN:Hid (∀ (j:Nat) (y:Int),j < k+1→zs[j]? = some y→inR y 0 15=true):=fun j y hj hy=>by
       by_cases e:j=k
       ·subst e
        rw [HX.out] at hy
        cases hy
        simp [inR];omega
       ·exact HOK.out j y (by omega) hy
      go_wp2
      go_round
      case rel=>exact ⟨k+1,by omega,by go_num,HN.out⟩
      case measure=>simp [intOf];omega
   ·have hkn:k=n:=by omega
    subst hkn
    have HB:Hid (qE8 zs=0):=QO1 (by rw [HZ.out];omega) (fun j x hj hx=>HOK.out j x (by rw [HZ.out] at hj;exact hj) hx)
    go_wp2
    go_ret
    exact ⟨by rw [HB.out];rfl,rfl⟩
theorem QR1 (a:Option Addr) (n cap:Nat) (zs:List Int) (w:World) (h:qC1 w a n zs) :
  Calls Tryz.prog 141 #[.slice a n cap] w fun e w'=>e = .returned (.int .i64 (qE8 zs))∧w=w':=by
 have HZ:Hid (zs.length=n):=h.1
 have HI:Hid (qC1 w a n zs):=h
 clear h
 by_cases h4:4 < n
 ·have hc:qE8 zs=2:=by unfold qE8;rw [if_pos (by rw [HZ.out];exact h4)]
  rw [hc]
  clear hc
  have h4':(4:Int) < (n:Int):=by omega
  go_enter Tryz.func141,Tryz.ntmps141
  go_wp2
  go_ret
  exact ⟨rfl,rfl⟩
 ·have h4':(n:Int)≤4:=by omega
  go_enter Tryz.func141,Tryz.ntmps141
  go_wp2
  go_loop [3] (fun i=>∃ k:Nat,k≤n∧i = .int .i64 (k:Int)∧∀ (j:Nat) (x:Int),j < k→zs[j]? = some x→inR x 0 15=true) (fun i=>n - (intOf i).toNat)
  case atStart=>exact ⟨0,Nat.zero_le _,rfl,fun j x hj=>by omega⟩
  case round =>
   obtain ⟨k,hk,rfl,hok⟩:=hrel
   have HOK:Hid (∀ (j:Nat) (x:Int),j < k→zs[j]? = some x→inR x 0 15=true):=hok
   clear hok
   by_cases hlt:k < n
   ·obtain ⟨b,off,x,e,hx,hc,hb⟩:=HI.out.at hlt
    subst e
    have HX:Hid (zs[k]? = some x):=hx
    clear hx
    have hlt':(k:Int) < (n:Int):=by omega
    by_cases q0:inR x 0 15=true
    ·have HN:Hid (∀ (j:Nat) (y:Int),j < k+1→zs[j]? = some y→inR y 0 15=true):=fun j y hj hy=>by
      by_cases e:j=k
      ·subst e
       rw [HX.out] at hy
       cases hy
       exact q0
      ·exact HOK.out j y (by omega) hy
     have HQ:Hid (inR x 0 15=true):=q0
     clear q0
     go_wp2_with (go_at_call 65;refine (qL2 _ _ _ _).mono ?_;rintro e w' ⟨rfl,rfl⟩;rw [HQ.out])
     go_round
     case rel=>exact ⟨k+1,by omega,by go_num,HN.out⟩
     case measure=>simp [intOf];omega
    ·have HQ:Hid (inR x 0 15=false):=by show inR x 0 15=false;simpa using q0
     clear q0
     have HB:Hid (qE8 zs=3):=qV7 (by rw [HZ.out];omega) HX.out HQ.out
     go_wp2_with (go_at_call 65;refine (qL2 _ _ _ _).mono ?_;rintro e w' ⟨rfl,rfl⟩;rw [HQ.out])
     go_ret
     exact ⟨by rw [HB.out];rfl,rfl⟩
   ·have hkn:k=n:=by omega
    subst hkn
    have HB:Hid (qE8 zs=0):=QO1 (by rw [HZ.out];omega) (fun j x hj hx=>HOK.out j x (by rw [HZ.out] at hj;exact hj) hx)
    go_wp2
    go_ret
    exact ⟨by rw [HB.out];rfl,rfl⟩

end Go.Proofs.YthogdfnaojijhaaGreat
