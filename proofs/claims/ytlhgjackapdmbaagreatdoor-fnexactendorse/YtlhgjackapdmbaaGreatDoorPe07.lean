/- Contracts. -/
import Derived.Test.YtlhgjackapdmbaaGreatDoorPe02
import Derived.Test.YtlhgjackapdmbaaGreatDoorPe03
import Derived.Handy
import Derived.WalkSmall
import Derived.BigQuiet
import Derived.Deep.QuietTactic
namespace Go.Proofs.YtlhgjackapdmbaaGreatDoor
set_option maxRecDepth 100000
set_option maxHeartbeats 8000000
open Go.RowKit
set_option linter.unusedVariables false
set_option linter.unusedSimpArgs false

structure LkI where
 e:Int
 c:Int
 p:Int
 f:Int
deriving DecidableEq,Inhabited
def QC7 (w:World) (b o:Nat) (x:LkI):Prop:=w.cell? ⟨b,o,none⟩=some (.int .i64 x.e)∧w.cell? ⟨b,o+1,none⟩=some (.int .i64 x.c)∧w.cell? ⟨b,o+2,none⟩=some (.int .i64 x.p)∧w.cell? ⟨b,o+3,none⟩=some (.int .i64 x.f)
theorem QC7.below {w w':World} {B b o:Nat} {x:LkI} (h:QC7 w b o x) (hb:Below B w w') (hB:b < B):QC7 w' b o x :=
 ⟨(hb.cell (p:=⟨b,o,none⟩) hB).trans h.1,(hb.cell (p:=⟨b,o+1,none⟩) hB).trans h.2.1,(hb.cell (p:=⟨b,o+2,none⟩) hB).trans h.2.2.1,(hb.cell (p:=⟨b,o+3,none⟩) hB).trans h.2.2.2⟩
def qK1 (w:World) (a:Option Addr) (n:Nat) (gs:List LkI):Prop:=gs.length=n∧(0 < n→∃ b off,a=some ⟨b,off,none⟩∧∀ k x,gs[k]? = some x→QC7 w b (off+k * 4) x)
theorem qK1.below {w w':World} {a:Option Addr} {n:Nat} {gs:List LkI} (h:qK1 w a n gs) (hb:Below w.heap.size w w'):qK1 w' a n gs:=by
 refine ⟨h.1,fun hn=>?_⟩
 obtain ⟨b,off,e,k⟩:=h.2 hn
 exact ⟨b,off,e,fun j x hx=>(k j x hx).below hb (zL w ⟨b,off+j * 4,none⟩ (k j x hx).1)⟩
theorem qK1.at {w:World} {a:Option Addr} {n:Nat} {gs:List LkI} (h:qK1 w a n gs) {k:Nat} (hk:k < n):∃ b off x,a=some ⟨b,off,none⟩∧gs[k]? = some x∧QC7 w b (off+k * 4) x∧b < w.heap.size:=by
 obtain ⟨b,off,e,q⟩:=h.2 (by omega)
 have hx:=List.getElem?_eq_getElem (l:=gs) (i:=k) (by rw [h.1];exact hk)
 exact ⟨b,off,_,e,hx,q k _ hx,zL w ⟨b,off+k * 4,none⟩ (q k _ hx).1⟩
def qZ6 (w:World) (g:Nat) (gs:List LkI):Prop:=∀ k x,gs[k]? = some x→QC7 w g (k * 4) x
theorem qZ6.below {w w':World} {g:Nat} {gs:List LkI} (h:qZ6 w g gs) (hb:Below w.heap.size w w'):qZ6 w' g gs:=fun k x e =>
 (h k x e).below hb (zL w ⟨g,k * 4,none⟩ (h k x e).1)
theorem qK1.of {w:World} {g n:Nat} {gs:List LkI} (hl:gs.length=n) (h:qZ6 w g gs):qK1 w (some ⟨g,0,none⟩) n gs :=
 ⟨hl,fun _=>⟨g,0,rfl,fun k x e=>by rw [Nat.zero_add];exact h k x e⟩⟩
def qJ2 (w:World) (g n:Nat):Prop:=(∀ j,j < n * 4→∃ v,w.cell? ⟨g,j,none⟩=some v)∧∀ j,w.frozen? ⟨g,j,none⟩=false
abbrev LkPut (w:World) (g o:Nat) (s:LkI):World:=((((w.setCell ⟨g,o,none⟩ (.int .i64 s.e)).setCell ⟨g,o+1,none⟩ (.int .i64 s.c)).setCell ⟨g,o+2,none⟩ (.int .i64 s.p)).setCell ⟨g,o+3,none⟩ (.int .i64 s.f))
theorem qS8 (w:World) (g o:Nat) (s:LkI) (a:Addr) (h:∀ j,j < 4→a≠⟨g,o+j,none⟩):(LkPut w g o s).cell? a=w.cell? a:=by
 rw [World.cell?_setCell_other (h:=Ne.symm (h 3 (by omega))),World.cell?_setCell_other (h:=Ne.symm (h 2 (by omega))),World.cell?_setCell_other (h:=Ne.symm (h 1 (by omega))),World.cell?_setCell_other (h:=Ne.symm (a:=a) (b:=⟨g,o,none⟩) (by simpa using h 0 (by omega)))]
theorem LkPut_at (w:World) (g o:Nat) (s:LkI) (h:∀ j,j < 4→∃ v,w.cell? ⟨g,o+j,none⟩=some v):QC7 (LkPut w g o s) g o s:=by
 obtain ⟨v0,h0⟩:=h 0 (by omega)
 obtain ⟨v1,h1⟩:=h 1 (by omega)
 obtain ⟨v2,h2⟩:=h 2 (by omega)
 obtain ⟨v3,h3⟩:=h 3 (by omega)
 rw [Nat.add_zero] at h0
 refine ⟨?_,?_,?_,?_⟩ <;> simp [go_sem,h0,h1,h2,h3]
theorem LkPut_room {w:World} {g n k:Nat} {zs:List LkI} {s:LkI} (hroom:qJ2 w g n) (hd:qZ6 w g (zs.take k)) (hs:zs[k]? = some s) (hk:k < n) :
  qJ2 (LkPut w g (k * 4) s) g n∧qZ6 (LkPut w g (k * 4) s) g (zs.take (k+1)):=by
 have hr:=LkPut_at w g (k * 4) s (fun j hj=>hroom.1 (k * 4+j) (by omega))
 refine ⟨⟨fun j hj=>?_,fun j=>?_⟩,fun i r e=>?_⟩
 ·by_cases h:k * 4≤j∧j < k * 4+4
  ·have hj':j=k * 4∨j=k * 4+1∨j=k * 4+2∨j=k * 4+3:=by omega
   obtain ⟨h0,h1,h2,h3⟩:=hr
   rcases hj' with rfl | rfl | rfl | rfl
   ·exact ⟨_,h0⟩
   ·exact ⟨_,h1⟩
   ·exact ⟨_,h2⟩
   ·exact ⟨_,h3⟩
  ·rw [qS8 w g (k * 4) s ⟨g,j,none⟩ (fun i hi e=>by have e2:=congrArg Addr.off e;simp only at e2;omega)]
   exact hroom.1 j hj
 ·simp only [World.frozen?_setCell]
  exact hroom.2 j
 ·rw [List.getElem?_take] at e
  split at e
  ·by_cases hik:i=k
   ·subst hik
    rw [hs] at e
    cases e
    exact hr
   ·have hi:i < k:=by omega
    have h1:=hd i r (by rw [List.getElem?_take,if_pos hi];exact e)
    obtain ⟨h0,h1,h2,h3⟩:=h1
    refine ⟨?_,?_,?_,?_⟩
    ·rw [qS8 w g (k * 4) s ⟨g,i * 4,none⟩ (fun j hj e=>by have e2:=congrArg Addr.off e;simp only at e2;omega)];exact h0
    ·rw [qS8 w g (k * 4) s ⟨g,i * 4+1,none⟩ (fun j hj e=>by have e2:=congrArg Addr.off e;simp only at e2;omega)];exact h1
    ·rw [qS8 w g (k * 4) s ⟨g,i * 4+2,none⟩ (fun j hj e=>by have e2:=congrArg Addr.off e;simp only at e2;omega)];exact h2
    ·rw [qS8 w g (k * 4) s ⟨g,i * 4+3,none⟩ (fun j hj e=>by have e2:=congrArg Addr.off e;simp only at e2;omega)];exact h3
  ·cases e
theorem LkPut_below {w0 w:World} {B g o:Nat} (h:Below B w0 w) (hg:B≤g) (s:LkI):Below B w0 (LkPut w g o s) :=
 h.setCell hg _ |>.setCell hg _ |>.setCell hg _ |>.setCell hg _
theorem Tryz.info98:(Tryz.prog.info? 98).map (fun i=>(i.zero,i.size,i.bytes))=some (some (.agg #[.int .i64 0,.int .i64 0,.int .i64 0,.int .i64 0]),4,32):=by kernel_rfl
theorem Tryz.under31:Tryz.prog.underlying 31=some (.slice 98):=by kernel_rfl
theorem toLock_c (x:LkI) (w:World):Calls Tryz.prog 59 #[.agg #[.int .i64 x.e,.int .i64 x.c,.int .i64 x.p,.int .i64 x.f]] w fun e w'=>e = .returned (.agg #[.int .i64 x.e,.int .i64 x.c,.int .i64 x.p,.int .i64 x.f])∧Below w.heap.size w w':=by
 go_enter Tryz.func59,Tryz.ntmps59
 go_wp2
 go_returns
 exact ⟨rfl,by go_grown⟩
theorem QX7 (a:Option Addr) (n cap:Nat) (zs:List LkI) (w:World) (hn:n≤1048576) (h:qK1 w a n zs) :
  Calls Tryz.prog 35 #[.slice a n cap] w fun e w'=>e = .returned (.slice (some ⟨w.heap.size,0,none⟩) n n)∧qZ6 w' w.heap.size zs∧w.heap.size < w'.heap.size∧Below w.heap.size w w'∧qJ2 w' w.heap.size n:=by
 obtain ⟨i0,hi,hz0,hz1,hz2⟩:=info_parts Tryz.info98
 obtain ⟨wm,hmk,hownm,hgrm⟩:=run_make_full (P:=Tryz.prog) (w:=w) w.heap.size 31 98 i0 (.agg #[.int .i64 0,.int .i64 0,.int .i64 0,.int .i64 0]) 4 Tryz.underlying31 hi hz0 hz1 .i64 .i64 n (by rw [hz2];omega) (by unfold maxLen;omega) (Nat.le_refl _)
 have H:Hid (qK1 w a n zs):=h
 have hz:Hid (zs.length=n):=h.1
 clear h
 have HM:Hid (qJ2 wm w.heap.size n∧w.heap.size < wm.heap.size):=by
  refine ⟨⟨fun j hj=>?_,fun j=>hownm.frozenAt j⟩,(hownm.lt _ rfl).2⟩
  have hl:=hownm.1
  exact ⟨_,(hownm.cellAt j hj).trans (List.getElem?_eq_getElem (by omega))⟩
 clear hownm
 have HG:Hid (w.grownBy wm none):=hgrm
 clear hgrm
 have hn':(n:Int)≤1048576:=by omega
 go_enter Tryz.func35,Tryz.ntmps35
 go_wp2
 go_loopw [4] (fun i wr=>∃ k:Nat,k≤n∧i = .int .i64 (k:Int)∧qJ2 wr w.heap.size n∧qZ6 wr w.heap.size (zs.take k)∧w.heap.size < wr.heap.size∧Below w.heap.size w wr)
  (fun i _=>n - (intOf i).toNat)
 case atStart=>exact ⟨0,Nat.zero_le _,rfl,HM.out.1,fun k r e=>by simp at e,HM.out.2,(Below.refl _ _).grown HG.out (Nat.le_refl _) (fun k e=>by cases e)⟩
 case round =>
  obtain ⟨k,hk,rfl,hroom,hdone,hlt0,hnx⟩:=hrel
  by_cases hlt:k < n
  ·obtain ⟨b,off,s,rfl,hs,hr,hb⟩:=H.out.at hlt
   have HS:Hid (zs[k]? = some s):=hs
   clear hs
   obtain ⟨h0,h1,h2,h3⟩:=hr.below hnx hb
   have HD:Hid (qJ2 wr w.heap.size n∧qZ6 wr w.heap.size (zs.take k)):=⟨hroom,hdone⟩
   clear hroom hdone hr
   have hlt':(k:Int) < (n:Int):=by omega
   go_wp2_with fail
   refine (toLock_c s _).mono ?_
   rintro e w1 ⟨rfl,hb1⟩
   obtain ⟨⟨hc,hf⟩,hd⟩:=HD.out
   have hz1:=hb1.size
   have HD1:Hid (qJ2 w1 w.heap.size n∧qZ6 w1 w.heap.size (zs.take k)∧Below w.heap.size w w1) :=
    ⟨⟨fun j hj=>by obtain ⟨v,e⟩:=hc j hj;exact ⟨v,(hb1.cell (p:=⟨w.heap.size,j,none⟩) hlt0).trans e⟩,fun j=>(hb1.frozen (p:=⟨w.heap.size,j,none⟩) hlt0).trans (hf j)⟩,hd.below hb1,hnx.trans (hb1.mono hnx.size)⟩
   clear hc hf hd HD h0 h1 h2 h3
   obtain ⟨v0,c0⟩:=HD1.out.1.1 (k * 4) (by omega)
   obtain ⟨v1,c1⟩:=HD1.out.1.1 (k * 4+1) (by omega)
   obtain ⟨v2,c2⟩:=HD1.out.1.1 (k * 4+2) (by omega)
   obtain ⟨v3,c3⟩:=HD1.out.1.1 (k * 4+3) (by omega)
   have f0:=HD1.out.1.2 (k * 4)
   have f1:=HD1.out.1.2 (k * 4+1)
   have f2:=HD1.out.1.2 (k * 4+2)
   have f3:=HD1.out.1.2 (k * 4+3)
   have RM:Hid (qJ2 (LkPut w1 w.heap.size (k * 4) s) w.heap.size n∧qZ6 (LkPut w1 w.heap.size (k * 4) s) w.heap.size (zs.take (k+1))∧Below w.heap.size w (LkPut w1 w.heap.size (k * 4) s)):=by
    have h2:=LkPut_room HD1.out.1 HD1.out.2.1 HS.out hlt
    exact ⟨h2.1,h2.2,LkPut_below HD1.out.2.2 (Nat.le_refl _) s⟩
   go_wp2
   exact ⟨⟨k+1,by omega,by go_num,RM.out.1,RM.out.2.1,by simp only [World.size_setCell];omega,RM.out.2.2⟩,by simp [intOf];omega⟩
  ·have hkn:k=n:=by omega
   subst hkn
   rw [List.take_of_length_le (by rw [hz.out];exact Nat.le_refl _)] at hdone
   go_wp2
   go_ret
   exact ⟨rfl,hdone,hlt0,hnx,hroom⟩
theorem eqLock_same (x:LkI) (w:World) :
  Calls Tryz.prog 67 #[.agg #[.int .i64 x.e,.int .i64 x.c,.int .i64 x.p,.int .i64 x.f],.agg #[.int .i64 x.e,.int .i64 x.c,.int .i64 x.p,.int .i64 x.f]] w fun e w'=>e = .returned (.bool true)∧Below w.heap.size w w':=by
 go_enter Tryz.func67,Tryz.ntmps67
 go_wp2
 go_ret
 exact ⟨rfl,by go_grown⟩
theorem eqLocks_same (a b:Option Addr) (n c d:Nat) (zs:List LkI) (w:World) (hn:n≤1048576) (ha:qK1 w a n zs) (hb:qK1 w b n zs) :
  Calls Tryz.prog 39 #[.slice a n c,.slice b n d] w fun e w'=>e = .returned (.bool true)∧Below w.heap.size w w':=by
 have HA:Hid (qK1 w a n zs):=ha
 have HB:Hid (qK1 w b n zs):=hb
 clear ha hb
 have hn':(n:Int)≤1048576:=by omega
 go_enter Tryz.func39,Tryz.ntmps39
 go_wp2
 go_loopw [5] (fun i wr=>∃ k:Nat,k≤n∧i = .int .i64 (k:Int)∧Below w.heap.size w wr) (fun i _=>n - (intOf i).toNat)
 case atStart=>exact ⟨0,Nat.zero_le _,rfl,Below.refl _ _⟩
 case round =>
  obtain ⟨k,hk,rfl,hnx⟩:=hrel
  by_cases hlt:k < n
  ·obtain ⟨b1,o1,s,e1,hs,hr,hl1⟩:=HA.out.at hlt
   obtain ⟨b2,o2,s2,e2,hs2,hr2,hl2⟩:=HB.out.at hlt
   obtain rfl:s=s2:=Option.some.inj (hs.symm.trans hs2)
   subst e1 e2
   clear hs hs2
   obtain ⟨h0,h1,h2,h3⟩:=hr.below hnx hl1
   obtain ⟨g0,g1,g2,g3⟩:=hr2.below hnx hl2
   clear hr hr2
   have hlt':(k:Int) < (n:Int):=by omega
   have hb1:b1 < wr.heap.size:=zL wr ⟨b1,o1+k * 4,none⟩ h0
   have hb2:b2 < wr.heap.size:=zL wr ⟨b2,o2+k * 4,none⟩ g0
   go_wp2
   go_region_held3 (fun w'=>(∀ b o,b < wr.heap.size→w'.cell? ⟨b,o,none⟩=wr.cell? ⟨b,o,none⟩)∧Below wr.heap.size wr w') (first | exact hS | exact qB4 _)
    (first | (go_at_call 67;refine (eqLock_same s _).mono ?_;rintro e w' ⟨rfl,hb1⟩;have hS:=qA0 (by assumption) hb1))
   go_wp2
   exact ⟨⟨k+1,by omega,by go_num,hnx.trans (hS.2.mono hnx.size)⟩,by simp [intOf];omega⟩
  ·have hkn:k=n:=by omega
   subst hkn
   go_wp2
   go_ret
   exact ⟨rfl,hnx⟩

def ltL (x y:LkI):Bool:=decide (x.e < y.e∨(x.e=y.e∧(x.c < y.c∨(x.c=y.c∧x.p < y.p))))
def inR (v lo hi:Int):Bool:=decide (lo≤v)&&decide (v≤hi)
def okL (x:LkI):Bool:=inR x.e 1 9&&inR x.c 0 3&&inR x.p 1 8&&inR x.f 1 4
def prevL (gs:List LkI) (k:Nat) (x:LkI):Bool:=match k with
 | 0=>true
 | j+1=>match gs[j]? with | some y=>ltL y x | none=>true
def QP1 (gs:List LkI) (k:Nat) (x:LkI):Int:=if okL x=false then 3 else if prevL gs k x=false then 1 else 0
def QI2 (gs:List LkI):Nat→Int
 | 0=>0
 | k+1=>if QI2 gs k≠0 then QI2 gs k else match gs[k]? with
  | none=>0
  | some x=>QP1 gs k x
def qJ8 (gs:List LkI):Int:=if 200 < gs.length then 2 else QI2 gs gs.length
theorem QL8 (gs:List LkI) (k m:Nat) (c:Int) (hc:c≠0) (h:QI2 gs k=c) (hm:k≤m):QI2 gs m=c:=by
  induction m with
  | zero => obtain rfl:k=0:=by omega
            exact h
  | succ m ih =>
    by_cases e:k=m+1
    · subst e;exact h
    · have:=ih (by omega)
      simp only [QI2,this]
      rw [if_pos hc]
theorem QL9 {gs:List LkI} {k:Nat} {x:LkI} (hk:gs[k]? = some x) (h0:QI2 gs k=0):QI2 gs (k+1)=QP1 gs k x:=by
 simp [QI2,h0,hk]
theorem QF6 {gs:List LkI} {k:Nat} {x:LkI}:QP1 gs k x=0↔okL x=true∧prevL gs k x=true:=by
 unfold QP1
 cases okL x <;> cases prevL gs k x <;> simp
def SL (gs:List LkI):Prop:=gs.Pairwise (fun a b=>ltL a b=true)
theorem QE0 {a b c:LkI} (h1:ltL a b=true) (h2:ltL b c=true):ltL a c=true:=by
 simp only [ltL,decide_eq_true_eq] at *
 omega
theorem lk_take {gs:List LkI}:∀ k,k≤gs.length→QI2 gs k=0→SL (gs.take k)∧∀ x∈gs.take k,okL x=true
 | 0,_,_=>by simp [SL]
 | k+1,hk,h=>by
  have h0:QI2 gs k=0:=by
   by_cases q:QI2 gs k=0
   ·exact q
   ·exact absurd (QL8 gs k (k+1) _ q rfl (by omega)) (by rw [h];exact fun e=>q e.symm)
  have hx:gs[k]? = some gs[k]:=List.getElem?_eq_getElem (by omega)
  rw [QL9 hx h0] at h
  obtain ⟨h1,h3⟩:=QF6.1 h
  obtain ⟨i1,i2⟩:=lk_take k (by omega) h0
  rw [List.take_succ_eq_append_getElem (by omega)]
  refine ⟨List.pairwise_append.2 ⟨i1,by simp,fun a ha b hb=>?_⟩,fun x hx=>?_⟩
  ·simp at hb
   rw [hb]
   obtain ⟨j,hj⟩:=List.mem_iff_getElem?.1 ha
   have hjk:j < k:=by
    by_cases q:j < k
    ·exact q
    ·rw [List.getElem?_eq_none (by simp;omega)] at hj;cases hj
   match k,hk,hx,h3,i1,ha,hj,hjk with
   | m+1,hk,hx,h3,i1,ha,hj,hjk =>
    have hy:gs[m]? = some gs[m]:=List.getElem?_eq_getElem (by omega)
    simp only [prevL,hy] at h3
    by_cases e:j=m
    ·subst e
     rw [List.getElem?_take,if_pos (by omega),hy] at hj
     cases hj
     exact h3
    ·have hm2:(gs.take (m+1))[m]? = some gs[m]:=by rw [List.getElem?_take,if_pos (by omega)];exact hy
     have:=List.pairwise_iff_getElem.1 i1 j m (by simp;omega) (by simp;omega) (by omega)
     rw [List.getElem?_eq_getElem (by simp;omega)] at hj hm2
     rw [Option.some.inj hj,Option.some.inj hm2] at this
     exact QE0 this h3
  ·rcases List.mem_append.1 hx with q | q
   ·exact i2 x q
   ·simp at q;rw [q];exact h1
theorem QF5 {gs:List LkI} (h:qJ8 gs=0):gs.length≤200∧SL gs∧∀ x∈gs,okL x=true:=by
 unfold qJ8 at h
 split at h
 ·cases h
 ·have:=lk_take gs.length (Nat.le_refl _) h
  rw [List.take_length] at this
  exact ⟨by omega,this⟩
def qE6 (gs:List LkI) (e c p:Int):Int:=match gs with
 | []=>0
 | x::xs=>if x.e=e∧x.c=c∧x.p=p then x.f else qE6 xs e c p
theorem formL_drop {gs:List LkI} {k:Nat} {x:LkI} (h:gs[k]? = some x) (e c p:Int):qE6 (gs.drop k) e c p=if x.e=e∧x.c=c∧x.p=p then x.f else qE6 (gs.drop (k+1)) e c p:=by
 have hk:k < gs.length:=by
  by_cases q:k < gs.length
  ·exact q
  ·rw [List.getElem?_eq_none (by omega)] at h;cases h
 have e1:gs[k]=x:=by rw [List.getElem?_eq_getElem hk] at h;exact Option.some.inj h
 rw [List.drop_eq_getElem_cons hk,e1]
 rfl
theorem QS1 {gs:List LkI} {e c p:Int} (h:∀ x∈gs,¬ (x.e=e∧x.c=c∧x.p=p)):qE6 gs e c p=0:=by
 induction gs with
 | nil=>rfl
 | cons x xs ih =>
  unfold qE6
  rw [if_neg (h x (by simp))]
  exact ih (fun y hy=>h y (by simp [hy]))
theorem formL_mem {gs:List LkI} (hs:SL gs) {x:LkI} (hx:x∈gs):qE6 gs x.e x.c x.p=x.f:=by
 induction gs with
 | nil=>cases hx
 | cons y ys ih =>
  have hp:=List.pairwise_cons.1 hs
  unfold qE6
  rcases List.mem_cons.1 hx with rfl | q
  ·simp
  ·have:=hp.1 x q
   rw [if_neg (by simp only [ltL,decide_eq_true_eq] at this;omega)]
   exact ih hp.2 q
def cmpJ (x y:Int):Int:=if x < y then -1 else if y < x then 1 else 0
def orJ (c d:Int):Int:=if c=0 then d else c
def cfL (x y:LkI):Int:=orJ (cmpJ x.e y.e) (orJ (cmpJ x.c y.c) (cmpJ x.p y.p))
theorem cfL_neg (x y:LkI):cfL x y < 0↔ltL x y=true:=by
 unfold cfL orJ ltL cmpJ
 simp only [decide_eq_true_eq]
 split <;> (repeat' split) <;> first | omega | (simp_all;try omega)
theorem cfL_zero (x y:LkI):cfL x y=0↔(x.e=y.e∧x.c=y.c∧x.p=y.p):=by
 unfold cfL orJ cmpJ
 split <;> (repeat' split) <;> first | omega | (simp_all;try omega)
def QO4 (gs:List LkI) (t:LkI) (i:Nat):Prop:=i≤gs.length∧(∀ k x,k < i→gs[k]? = some x→ltL x t=true)∧(∀ k x,i≤k→gs[k]? = some x→ltL x t=false)
theorem parts_form {gs:List LkI} (hs:SL gs) {t:LkI} {i:Nat} (h:QO4 gs t i):qE6 gs t.e t.c t.p=match gs[i]? with | some x=>if cfL x t=0 then x.f else 0 | none=>0:=by
 cases hi:gs[i]? with
 | none =>
  refine QS1 (fun x hx e=>?_)
  obtain ⟨k,hk⟩:=List.mem_iff_getElem?.1 hx
  have hkl:k < gs.length:=by
   by_cases q:k < gs.length
   ·exact q
   ·rw [List.getElem?_eq_none (by omega)] at hk;cases hk
  have hil:gs.length≤i:=List.getElem?_eq_none_iff.1 hi
  have:=h.2.1 k x (by omega) hk
  simp only [ltL,decide_eq_true_eq] at this
  omega
 | some y =>
  show _=if cfL y t=0 then y.f else 0
  by_cases q:cfL y t=0
  ·rw [if_pos q]
   obtain ⟨e1,e2,e3⟩:=(cfL_zero y t).1 q
   rw [← e1,← e2,← e3]
   exact formL_mem hs (List.mem_of_getElem? hi)
  ·rw [if_neg q]
   refine QS1 (fun x hx e=>?_)
   obtain ⟨k,hk⟩:=List.mem_iff_getElem?.1 hx
   rcases Nat.lt_trichotomy k i with hki | hki | hki
   ·have:=h.2.1 k x hki hk
    simp only [ltL,decide_eq_true_eq] at this
    omega
   ·subst hki
    rw [hi] at hk
    cases hk
    exact q ((cfL_zero _ _).2 e)
   ·have hkl:k < gs.length:=by
     by_cases q:k < gs.length
     ·exact q
     ·rw [List.getElem?_eq_none (by omega)] at hk;cases hk
    have hil:i < gs.length:=by omega
    have h1:=List.pairwise_iff_getElem.1 hs i k hil hkl hki
    rw [List.getElem?_eq_getElem hkl] at hk
    rw [List.getElem?_eq_getElem hil] at hi
    rw [Option.some.inj hk,Option.some.inj hi] at h1
    have h2:=h.2.2 i y (Nat.le_refl _) (by rw [List.getElem?_eq_getElem hil,Option.some.inj hi])
    simp only [ltL,decide_eq_true_eq,decide_eq_false_iff_not] at h1 h2
    omega

end Go.Proofs.YtlhgjackapdmbaaGreatDoor
