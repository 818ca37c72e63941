/- Contracts. -/
import Derived.Test.YtlhgjackapdmbaaGreatDoorPw21
namespace Go.Proofs.YtlhgjackapdmbaaGreatDoor
set_option maxRecDepth 100000
set_option maxHeartbeats 8000000
open Go.RowKit
set_option linter.unusedVariables false
set_option linter.unusedSimpArgs false

structure StI where
 k:Int
 e:Int
 f:Int
 s:Int
 n:Int
deriving DecidableEq,Inhabited
def qR0 (w:World) (b o:Nat) (x:StI):Prop:=w.cell? ⟨b,o,none⟩=some (.int .i64 x.k)∧w.cell? ⟨b,o+1,none⟩=some (.int .i64 x.e)∧w.cell? ⟨b,o+2,none⟩=some (.int .i64 x.f)∧w.cell? ⟨b,o+3,none⟩=some (.int .i64 x.s)∧w.cell? ⟨b,o+4,none⟩=some (.int .i64 x.n)
theorem qR0.below {w w':World} {B b o:Nat} {x:StI} (h:qR0 w b o x) (hb:Below B w w') (hB:b < B):qR0 w' b o x :=
 ⟨(hb.cell (p:=⟨b,o,none⟩) hB).trans h.1,(hb.cell (p:=⟨b,o+1,none⟩) hB).trans h.2.1,(hb.cell (p:=⟨b,o+2,none⟩) hB).trans h.2.2.1,(hb.cell (p:=⟨b,o+3,none⟩) hB).trans h.2.2.2.1,(hb.cell (p:=⟨b,o+4,none⟩) hB).trans h.2.2.2.2⟩
def qL3 (w:World) (a:Option Addr) (n:Nat) (gs:List StI):Prop:=gs.length=n∧(0 < n→∃ b off,a=some ⟨b,off,none⟩∧∀ k x,gs[k]? = some x→qR0 w b (off+k * 5) x)
theorem qL3.below {w w':World} {a:Option Addr} {n:Nat} {gs:List StI} (h:qL3 w a n gs) (hb:Below w.heap.size w w'):qL3 w' a n gs:=by
 refine ⟨h.1,fun hn=>?_⟩
 obtain ⟨b,off,e,k⟩:=h.2 hn
 exact ⟨b,off,e,fun j x hx=>(k j x hx).below hb (zL w ⟨b,off+j * 5,none⟩ (k j x hx).1)⟩
theorem qL3.at {w:World} {a:Option Addr} {n:Nat} {gs:List StI} (h:qL3 w a n gs) {k:Nat} (hk:k < n):∃ b off x,a=some ⟨b,off,none⟩∧gs[k]? = some x∧qR0 w b (off+k * 5) x∧b < w.heap.size:=by
 obtain ⟨b,off,e,q⟩:=h.2 (by omega)
 have hx:=List.getElem?_eq_getElem (l:=gs) (i:=k) (by rw [h.1];exact hk)
 exact ⟨b,off,_,e,hx,q k _ hx,zL w ⟨b,off+k * 5,none⟩ (q k _ hx).1⟩
def qX4 (w:World) (g:Nat) (gs:List StI):Prop:=∀ k x,gs[k]? = some x→qR0 w g (k * 5) x
theorem qX4.below {w w':World} {g:Nat} {gs:List StI} (h:qX4 w g gs) (hb:Below w.heap.size w w'):qX4 w' g gs:=fun k x e =>
 (h k x e).below hb (zL w ⟨g,k * 5,none⟩ (h k x e).1)
theorem qL3.of {w:World} {g n:Nat} {gs:List StI} (hl:gs.length=n) (h:qX4 w g gs):qL3 w (some ⟨g,0,none⟩) n gs :=
 ⟨hl,fun _=>⟨g,0,rfl,fun k x e=>by rw [Nat.zero_add];exact h k x e⟩⟩
def qO0 (w:World) (g n:Nat):Prop:=(∀ j,j < n * 5→∃ v,w.cell? ⟨g,j,none⟩=some v)∧∀ j,w.frozen? ⟨g,j,none⟩=false
abbrev StPut (w:World) (g o:Nat) (s:StI):World:=(((((w.setCell ⟨g,o,none⟩ (.int .i64 s.k)).setCell ⟨g,o+1,none⟩ (.int .i64 s.e)).setCell ⟨g,o+2,none⟩ (.int .i64 s.f)).setCell ⟨g,o+3,none⟩ (.int .i64 s.s)).setCell ⟨g,o+4,none⟩ (.int .i64 s.n))
theorem qN2 (w:World) (g o:Nat) (s:StI) (a:Addr) (h:∀ j,j < 5→a≠⟨g,o+j,none⟩):(StPut w g o s).cell? a=w.cell? a:=by
 rw [World.cell?_setCell_other (h:=Ne.symm (h 4 (by omega))),World.cell?_setCell_other (h:=Ne.symm (h 3 (by omega))),World.cell?_setCell_other (h:=Ne.symm (h 2 (by omega))),World.cell?_setCell_other (h:=Ne.symm (h 1 (by omega))),World.cell?_setCell_other (h:=Ne.symm (a:=a) (b:=⟨g,o,none⟩) (by simpa using h 0 (by omega)))]
theorem StPut_at (w:World) (g o:Nat) (s:StI) (h:∀ j,j < 5→∃ v,w.cell? ⟨g,o+j,none⟩=some v):qR0 (StPut w g o s) g o s:=by
 obtain ⟨v0,h0⟩:=h 0 (by omega)
 obtain ⟨v1,h1⟩:=h 1 (by omega)
 obtain ⟨v2,h2⟩:=h 2 (by omega)
 obtain ⟨v3,h3⟩:=h 3 (by omega)
 obtain ⟨v4,h4⟩:=h 4 (by omega)
 rw [Nat.add_zero] at h0
 refine ⟨?_,?_,?_,?_,?_⟩ <;> simp [go_sem,h0,h1,h2,h3,h4]
theorem StPut_room {w:World} {g n k:Nat} {zs:List StI} {s:StI} (hroom:qO0 w g n) (hd:qX4 w g (zs.take k)) (hs:zs[k]? = some s) (hk:k < n) :
  qO0 (StPut w g (k * 5) s) g n∧qX4 (StPut w g (k * 5) s) g (zs.take (k+1)):=by
 have hr:=StPut_at w g (k * 5) s (fun j hj=>hroom.1 (k * 5+j) (by omega))
 refine ⟨⟨fun j hj=>?_,fun j=>?_⟩,fun i r e=>?_⟩
 ·by_cases h:k * 5≤j∧j < k * 5+5
  ·have hj':j=k * 5∨j=k * 5+1∨j=k * 5+2∨j=k * 5+3∨j=k * 5+4:=by omega
   obtain ⟨h0,h1,h2,h3,h4⟩:=hr
   rcases hj' with rfl | rfl | rfl | rfl | rfl
   ·exact ⟨_,h0⟩
   ·exact ⟨_,h1⟩
   ·exact ⟨_,h2⟩
   ·exact ⟨_,h3⟩
   ·exact ⟨_,h4⟩
  ·rw [qN2 w g (k * 5) s ⟨g,j,none⟩ (fun i hi e=>by have e2:=congrArg Addr.off e;simp only at e2;omega)]
   exact hroom.1 j hj
 ·simp only [World.frozen?_setCell]
  exact hroom.2 j
 ·rw [List.getElem?_take] at e
  split at e
  ·by_cases hik:i=k
   ·subst hik
    rw [hs] at e
    cases e
    exact hr
   ·have hi:i < k:=by omega
    have h1:=hd i r (by rw [List.getElem?_take,if_pos hi];exact e)
    obtain ⟨h0,h1,h2,h3,h4⟩:=h1
    refine ⟨?_,?_,?_,?_,?_⟩
    ·rw [qN2 w g (k * 5) s ⟨g,i * 5,none⟩ (fun j hj e=>by have e2:=congrArg Addr.off e;simp only at e2;omega)];exact h0
    ·rw [qN2 w g (k * 5) s ⟨g,i * 5+1,none⟩ (fun j hj e=>by have e2:=congrArg Addr.off e;simp only at e2;omega)];exact h1
    ·rw [qN2 w g (k * 5) s ⟨g,i * 5+2,none⟩ (fun j hj e=>by have e2:=congrArg Addr.off e;simp only at e2;omega)];exact h2
    ·rw [qN2 w g (k * 5) s ⟨g,i * 5+3,none⟩ (fun j hj e=>by have e2:=congrArg Addr.off e;simp only at e2;omega)];exact h3
    ·rw [qN2 w g (k * 5) s ⟨g,i * 5+4,none⟩ (fun j hj e=>by have e2:=congrArg Addr.off e;simp only at e2;omega)];exact h4
  ·cases e
theorem StPut_below {w0 w:World} {B g o:Nat} (h:Below B w0 w) (hg:B≤g) (s:StI):Below B w0 (StPut w g o s) :=
 h.setCell hg _ |>.setCell hg _ |>.setCell hg _ |>.setCell hg _ |>.setCell hg _
theorem Tryz.info43:(Tryz.prog.info? 43).map (fun i=>(i.zero,i.size,i.bytes))=some (some (.agg #[.int .i64 0,.int .i64 0,.int .i64 0,.int .i64 0,.int .i64 0]),5,40):=by kernel_rfl
theorem QQ3 (x:StI) (w:World):Calls Tryz.prog 17 #[.agg #[.int .i64 x.k,.int .i64 x.e,.int .i64 x.f,.int .i64 x.s,.int .i64 x.n]] w fun e w'=>e = .returned (.agg #[.int .i64 x.k,.int .i64 x.e,.int .i64 x.f,.int .i64 x.s,.int .i64 x.n])∧Below w.heap.size w w':=by
 go_enter Tryz.func17,Tryz.ntmps17
 go_wp2
 go_returns
 exact ⟨rfl,by go_grown⟩
theorem QD1 (a:Option Addr) (n cap:Nat) (zs:List StI) (w:World) (hn:n≤1048576) (h:qL3 w a n zs) :
  Calls Tryz.prog 34 #[.slice a n cap] w fun e w'=>e = .returned (.slice (some ⟨w.heap.size,0,none⟩) n n)∧qX4 w' w.heap.size zs∧w.heap.size < w'.heap.size∧Below w.heap.size w w'∧qO0 w' w.heap.size n:=by
 obtain ⟨i0,hi,hz0,hz1,hz2⟩:=info_parts Tryz.info43
 obtain ⟨wm,hmk,hownm,hgrm⟩:=run_make_full (P:=Tryz.prog) (w:=w) w.heap.size 30 43 i0 (.agg #[.int .i64 0,.int .i64 0,.int .i64 0,.int .i64 0,.int .i64 0]) 5 Tryz.underlying30 hi hz0 hz1 .i64 .i64 n (by rw [hz2];omega) (by unfold maxLen;omega) (Nat.le_refl _)
 have H:Hid (qL3 w a n zs):=h
 have hz:Hid (zs.length=n):=h.1
 clear h
 have HM:Hid (qO0 wm w.heap.size n∧w.heap.size < wm.heap.size):=by
  refine ⟨⟨fun j hj=>?_,fun j=>hownm.frozenAt j⟩,(hownm.lt _ rfl).2⟩
  have hl:=hownm.1
  exact ⟨_,(hownm.cellAt j hj).trans (List.getElem?_eq_getElem (by omega))⟩
 clear hownm
 have HG:Hid (w.grownBy wm none):=hgrm
 clear hgrm
 have hn':(n:Int)≤1048576:=by omega
 go_enter Tryz.func34,Tryz.ntmps34
 go_wp2
 go_loopw [4] (fun i wr=>∃ k:Nat,k≤n∧i = .int .i64 (k:Int)∧qO0 wr w.heap.size n∧qX4 wr w.heap.size (zs.take k)∧w.heap.size < wr.heap.size∧Below w.heap.size w wr)
  (fun i _=>n - (intOf i).toNat)
 case atStart=>exact ⟨0,Nat.zero_le _,rfl,HM.out.1,fun k r e=>by simp at e,HM.out.2,(Below.refl _ _).grown HG.out (Nat.le_refl _) (fun k e=>by cases e)⟩
 case round =>
  obtain ⟨k,hk,rfl,hroom,hdone,hlt0,hnx⟩:=hrel
  by_cases hlt:k < n
  ·obtain ⟨b,off,s,rfl,hs,hr,hb⟩:=H.out.at hlt
   have HS:Hid (zs[k]? = some s):=hs
   clear hs
   obtain ⟨h0,h1,h2,h3,h4⟩:=hr.below hnx hb
   have HD:Hid (qO0 wr w.heap.size n∧qX4 wr w.heap.size (zs.take k)):=⟨hroom,hdone⟩
   clear hroom hdone hr
   have hlt':(k:Int) < (n:Int):=by omega
   go_wp2_with fail
   refine (QQ3 s _).mono ?_
   rintro e w1 ⟨rfl,hb1⟩
   obtain ⟨⟨hc,hf⟩,hd⟩:=HD.out
   have hz1:=hb1.size
   have HD1:Hid (qO0 w1 w.heap.size n∧qX4 w1 w.heap.size (zs.take k)∧Below w.heap.size w w1) :=
    ⟨⟨fun j hj=>by obtain ⟨v,e⟩:=hc j hj;exact ⟨v,(hb1.cell (p:=⟨w.heap.size,j,none⟩) hlt0).trans e⟩,fun j=>(hb1.frozen (p:=⟨w.heap.size,j,none⟩) hlt0).trans (hf j)⟩,hd.below hb1,hnx.trans (hb1.mono hnx.size)⟩
   clear hc hf hd HD h0 h1 h2 h3 h4
   obtain ⟨v0,c0⟩:=HD1.out.1.1 (k * 5) (by omega)
   obtain ⟨v1,c1⟩:=HD1.out.1.1 (k * 5+1) (by omega)
   obtain ⟨v2,c2⟩:=HD1.out.1.1 (k * 5+2) (by omega)
   obtain ⟨v3,c3⟩:=HD1.out.1.1 (k * 5+3) (by omega)
   obtain ⟨v4,c4⟩:=HD1.out.1.1 (k * 5+4) (by omega)
   have f0:=HD1.out.1.2 (k * 5)
   have f1:=HD1.out.1.2 (k * 5+1)
   have f2:=HD1.out.1.2 (k * 5+2)
   have f3:=HD1.out.1.2 (k * 5+3)
   have f4:=HD1.out.1.2 (k * 5+4)
   have RM:Hid (qO0 (StPut w1 w.heap.size (k * 5) s) w.heap.size n∧qX4 (StPut w1 w.heap.size (k * 5) s) w.heap.size (zs.take (k+1))∧Below w.heap.size w (StPut w1 w.heap.size (k * 5) s)):=by
    have h2:=StPut_room HD1.out.1 HD1.out.2.1 HS.out hlt
    exact ⟨h2.1,h2.2,StPut_below HD1.out.2.2 (Nat.le_refl _) s⟩
   go_wp2
   exact ⟨⟨k+1,by omega,by go_num,RM.out.1,RM.out.2.1,by simp only [World.size_setCell];omega,RM.out.2.2⟩,by simp [intOf];omega⟩
  ·have hkn:k=n:=by omega
   subst hkn
   rw [List.take_of_length_le (by rw [hz.out];exact Nat.le_refl _)] at hdone
   go_wp2
   go_ret
   exact ⟨rfl,hdone,hlt0,hnx,hroom⟩
theorem QF6 (x:StI) (w:World) :
  Calls Tryz.prog 66 #[.agg #[.int .i64 x.k,.int .i64 x.e,.int .i64 x.f,.int .i64 x.s,.int .i64 x.n],.agg #[.int .i64 x.k,.int .i64 x.e,.int .i64 x.f,.int .i64 x.s,.int .i64 x.n]] w fun e w'=>e = .returned (.bool true)∧Below w.heap.size w w':=by
 go_enter Tryz.func66,Tryz.ntmps66
 go_wp2
 go_ret
 exact ⟨rfl,by go_grown⟩
theorem QD9 (a b:Option Addr) (n c d:Nat) (zs:List StI) (w:World) (hn:n≤1048576) (ha:qL3 w a n zs) (hb:qL3 w b n zs) :
  Calls Tryz.prog 38 #[.slice a n c,.slice b n d] w fun e w'=>e = .returned (.bool true)∧Below w.heap.size w w':=by
 have HA:Hid (qL3 w a n zs):=ha
 have HB:Hid (qL3 w b n zs):=hb
 clear ha hb
 have hn':(n:Int)≤1048576:=by omega
 go_enter Tryz.func38,Tryz.ntmps38
 go_wp2
 go_loopw [5] (fun i wr=>∃ k:Nat,k≤n∧i = .int .i64 (k:Int)∧Below w.heap.size w wr) (fun i _=>n - (intOf i).toNat)
 case atStart=>exact ⟨0,Nat.zero_le _,rfl,Below.refl _ _⟩
 case round =>
  obtain ⟨k,hk,rfl,hnx⟩:=hrel
  by_cases hlt:k < n
  ·obtain ⟨b1,o1,s,e1,hs,hr,hl1⟩:=HA.out.at hlt
   obtain ⟨b2,o2,s2,e2,hs2,hr2,hl2⟩:=HB.out.at hlt
   obtain rfl:s=s2:=Option.some.inj (hs.symm.trans hs2)
   subst e1 e2
   clear hs hs2
   obtain ⟨h0,h1,h2,h3,h4⟩:=hr.below hnx hl1
   obtain ⟨g0,g1,g2,g3,g4⟩:=hr2.below hnx hl2
   clear hr hr2
   have hlt':(k:Int) < (n:Int):=by omega
   have hb1:b1 < wr.heap.size:=zL wr ⟨b1,o1+k * 5,none⟩ h0
   have hb2:b2 < wr.heap.size:=zL wr ⟨b2,o2+k * 5,none⟩ g0
   go_wp2
   go_region_held3 (fun w'=>(∀ b o,b < wr.heap.size→w'.cell? ⟨b,o,none⟩=wr.cell? ⟨b,o,none⟩)∧Below wr.heap.size wr w') (first | exact hS | exact qB5 _)
    (first | (go_at_call 66;refine (QF6 s _).mono ?_;rintro e w' ⟨rfl,hb1⟩;have hS:=qA6 (by assumption) hb1))
   go_wp2
   exact ⟨⟨k+1,by omega,by go_num,hnx.trans (hS.2.mono hnx.size)⟩,by simp [intOf];omega⟩
  ·have hkn:k=n:=by omega
   subst hkn
   go_wp2
   go_ret
   exact ⟨rfl,hnx⟩

structure qC5 where
 k:Int
 ro:Int
 rn:Int
 l:Int
 r:Int
deriving DecidableEq,Inhabited
def qI6 (k:Nat) (p:qC5):Int :=
 if ¬ (1≤p.k∧p.k≤3) then 1
 else if p.k=1 then (if qC8 p.ro p.rn=false then 3 else if ¬ (p.l=0∧p.r=0) then 1 else 0)
 else if ¬ (p.ro=0∧p.rn=0) then 1 else if ¬ (0≤p.l∧p.l < k) then 3 else if ¬ (0≤p.r∧p.r < k) then 3 else 0
def QF3 (zs:List qC5):Nat→Int
 | 0=>0
 | k+1=>if QF3 zs k≠0 then QF3 zs k else match zs[k]? with
  | none=>0
  | some x=>qI6 k x
def qL6 (zs:List qC5):Int:=if zs.length < 1 then 2 else if 8 < zs.length then 2 else QF3 zs zs.length
theorem QI0 (zs:List qC5) (k m:Nat) (c:Int) (hc:c≠0) (h:QF3 zs k=c) (hm:k≤m):QF3 zs m=c:=by
  induction m with
  | zero => obtain rfl:k=0:=by omega
            exact h
  | succ m ih =>
    by_cases e:k=m+1
    · subst e;exact h
    · have:=ih (by omega)
      simp only [QF3,this]
      rw [if_pos hc]
theorem QI1 {zs:List qC5} {k:Nat} {x:qC5} (hk:zs[k]? = some x) (h0:QF3 zs k=0):QF3 zs (k+1)=qI6 k x:=by
 simp [QF3,h0,hk]
theorem ptTo_low {zs:List qC5} {m:Nat} (h:QF3 zs m=0):∀ k,k≤m→QF3 zs k=0:=by
 intro k hk
 by_cases q:QF3 zs k=0
 ·exact q
 ·have:=QI0 zs k m _ q rfl hk
  rw [this] at h
  exact absurd h q
theorem QO3 {zs:List qC5} (h:qL6 zs=0):1≤zs.length∧zs.length≤8∧∀ k x,zs[k]? = some x→qI6 k x=0:=by
 unfold qL6 at h
 split at h
 ·cases h
 ·split at h
  ·cases h
  ·refine ⟨by omega,by omega,fun k x e=>?_⟩
   have hk:k < zs.length:=by
    by_cases q:k < zs.length
    ·exact q
    ·rw [List.getElem?_eq_none (by omega)] at e;cases e
   have h0:=ptTo_low h k (by omega)
   have h1:=ptTo_low h (k+1) (by omega)
   rw [QI1 e h0] at h1
   exact h1
def qU4 (w:World) (g off:Nat) (x:qC5):Prop:=w.cell? ⟨g,off,none⟩=some (.int .i64 x.k)∧w.cell? ⟨g,off+1,none⟩=some (.int .i64 x.ro)∧w.cell? ⟨g,off+2,none⟩=some (.int .i64 x.rn)∧w.cell? ⟨g,off+3,none⟩=some (.int .i64 x.l)∧w.cell? ⟨g,off+4,none⟩=some (.int .i64 x.r)
theorem qU4.below {w w':World} {g off:Nat} {x:qC5} (h:qU4 w g off x) (hb:Below w.heap.size w w'):qU4 w' g off x:=by
 have key:∀ (o:Nat) (v:Value),w.cell? ⟨g,o,none⟩=some v→w'.cell? ⟨g,o,none⟩=some v:=fun o v e=>(hb.cell (p:=⟨g,o,none⟩) (zL w ⟨g,o,none⟩ e)).trans e
 obtain ⟨h0,h1,h2,h3,h4⟩:=h
 exact ⟨key _ _ h0,key _ _ h1,key _ _ h2,key _ _ h3,key _ _ h4⟩
theorem qU4.lt {w:World} {g off:Nat} {x:qC5} (h:qU4 w g off x):g < w.heap.size:=zL w ⟨g,off,none⟩ h.1
def qN3 (w:World) (g off:Nat) (zs:List qC5):Prop:=∀ k x,zs[k]? = some x→qU4 w g (off+k * 5) x
theorem qN3.below {w w':World} {g off:Nat} {zs:List qC5} (h:qN3 w g off zs) (hb:Below w.heap.size w w'):qN3 w' g off zs:=fun k x e=>(h k x e).below hb
def qB9 (w:World) (a:Option Addr) (len:Nat) (zs:List qC5):Prop:=zs.length=len∧(0 < len→∃ b off,a=some ⟨b,off,none⟩∧qN3 w b off zs)
theorem qB9.below {w w':World} {a:Option Addr} {len:Nat} {zs:List qC5} (h:qB9 w a len zs) (hb:Below w.heap.size w w'):qB9 w' a len zs:=by
 refine ⟨h.1,fun hl=>?_⟩
 obtain ⟨b,off,e,hr⟩:=h.2 hl
 exact ⟨b,off,e,hr.below hb⟩
theorem qB9.at {w:World} {a:Option Addr} {len:Nat} {zs:List qC5} (h:qB9 w a len zs) {k:Nat} (hk:k < len) :
  ∃ b off x,a=some ⟨b,off,none⟩∧zs[k]? = some x∧qU4 w b (off+k * 5) x:=by
 obtain ⟨b,off,e,hr⟩:=h.2 (by omega)
 have hl:=h.1
 exact ⟨b,off,zs[k]'(by omega),e,List.getElem?_eq_getElem (by omega),hr k _ (List.getElem?_eq_getElem (by omega))⟩
theorem qB9.of {w:World} {g len:Nat} {zs:List qC5} (hl:zs.length=len) (h:qN3 w g 0 zs):qB9 w (some ⟨g,0,none⟩) len zs :=
 ⟨hl,fun _=>⟨g,0,rfl,h⟩⟩
def QU1 (w:World) (a:Option Addr) (len:Nat) (zs:List qC5):Prop:=qB9 w a len zs∧len≤maxLen
def qY6 (w:World) (g n:Nat):Prop:=(∀ j,j < n * 5→∃ v,w.cell? ⟨g,j,none⟩=some v)∧∀ j,w.frozen? ⟨g,j,none⟩=false
theorem qY6.below {w w':World} {g n:Nat} (h:qY6 w g n) (hg:g < w.heap.size) (hb:Below w.heap.size w w'):qY6 w' g n :=
 ⟨fun j hj=>by obtain ⟨v,e⟩:=h.1 j hj;exact ⟨v,(hb.cell (p:=⟨g,j,none⟩) hg).trans e⟩,fun j=>(hb.frozen (p:=⟨g,j,none⟩) hg).trans (h.2 j)⟩
abbrev put5 (w:World) (g o:Nat) (s:qC5):World:=(((((w.setCell ⟨g,o,none⟩ (.int .i64 s.k)).setCell ⟨g,o+1,none⟩ (.int .i64 s.ro)).setCell ⟨g,o+2,none⟩ (.int .i64 s.rn)).setCell ⟨g,o+3,none⟩ (.int .i64 s.l)).setCell ⟨g,o+4,none⟩ (.int .i64 s.r))
theorem QO2 (w:World) (g o:Nat) (s:qC5) (a:Addr) (h:∀ j,j < 5→a≠⟨g,o+j,none⟩):(put5 w g o s).cell? a=w.cell? a:=by
 rw [World.cell?_setCell_other (h:=Ne.symm (h 4 (by omega))),World.cell?_setCell_other (h:=Ne.symm (h 3 (by omega))),World.cell?_setCell_other (h:=Ne.symm (h 2 (by omega))),World.cell?_setCell_other (h:=Ne.symm (h 1 (by omega))),World.cell?_setCell_other (h:=Ne.symm (a:=a) (b:=⟨g,o,none⟩) (by simpa using h 0 (by omega)))]
theorem put5_at (w:World) (g o:Nat) (s:qC5) (h:∀ j,j < 5→∃ v,w.cell? ⟨g,o+j,none⟩=some v):qU4 (put5 w g o s) g o s:=by
 obtain ⟨v0,h0⟩:=h 0 (by omega)
 obtain ⟨v1,h1⟩:=h 1 (by omega)
 obtain ⟨v2,h2⟩:=h 2 (by omega)
 obtain ⟨v3,h3⟩:=h 3 (by omega)
 obtain ⟨v4,h4⟩:=h 4 (by omega)
 rw [Nat.add_zero] at h0
 refine ⟨?_,?_,?_,?_,?_⟩ <;> simp [go_sem,h0,h1,h2,h3,h4]
theorem put5_room {w:World} {g n k:Nat} {zs:List qC5} {s:qC5} (hroom:qY6 w g n) (hd:qN3 w g 0 (zs.take k)) (hs:zs[k]? = some s) (hk:k < n) :
  qY6 (put5 w g (k * 5) s) g n∧qN3 (put5 w g (k * 5) s) g 0 (zs.take (k+1)):=by
 have hr:=put5_at w g (k * 5) s (fun j hj=>hroom.1 (k * 5+j) (by omega))
 refine ⟨⟨fun j hj=>?_,fun j=>?_⟩,fun i r e=>?_⟩
 ·by_cases h:k * 5≤j∧j < k * 5+5
  ·have hj':j=k * 5∨j=k * 5+1∨j=k * 5+2∨j=k * 5+3∨j=k * 5+4:=by omega
   obtain ⟨h0,h1,h2,h3,h4⟩:=hr
   rcases hj' with rfl | rfl | rfl | rfl | rfl
   ·exact ⟨_,h0⟩
   ·exact ⟨_,h1⟩
   ·exact ⟨_,h2⟩
   ·exact ⟨_,h3⟩
   ·exact ⟨_,h4⟩
  ·rw [QO2 w g (k * 5) s ⟨g,j,none⟩ (fun i hi e=>by have e2:=congrArg Addr.off e;simp only at e2;omega)]
   exact hroom.1 j hj
 ·simp only [World.frozen?_setCell]
  exact hroom.2 j
 ·rw [List.getElem?_take] at e
  split at e
  ·by_cases hik:i=k
   ·subst hik
    rw [hs] at e
    cases e
    rw [Nat.zero_add]
    exact hr
   ·have hi:i < k:=by omega
    have h1:=hd i r (by rw [List.getElem?_take,if_pos hi];exact e)
    have key:∀ (o:Nat) (v:Value),o < k * 5→w.cell? ⟨g,o,none⟩=some v→(put5 w g (k * 5) s).cell? ⟨g,o,none⟩=some v:=fun o v ho hv=>by
     rw [QO2 w g (k * 5) s ⟨g,o,none⟩ (fun j hj e=>by have e2:=congrArg Addr.off e;simp only at e2;omega)];exact hv
    obtain ⟨h0,h1,h2,h3,h4⟩:=h1
    exact ⟨key _ _ (by omega) h0,key _ _ (by omega) h1,key _ _ (by omega) h2,key _ _ (by omega) h3,key _ _ (by omega) h4⟩
  ·cases e
theorem put5_below {w0 w:World} {B g o:Nat} (h:Below B w0 w) (hg:B≤g) (s:qC5):Below B w0 (put5 w g o s) :=
 h.setCell hg _ |>.setCell hg _ |>.setCell hg _ |>.setCell hg _ |>.setCell hg _
theorem toPart_c (x:qC5) (w:World):Calls Tryz.prog 145 #[.agg #[.int .i64 x.k,.int .i64 x.ro,.int .i64 x.rn,.int .i64 x.l,.int .i64 x.r]] w fun e w'=>e = .returned (.agg #[.int .i64 x.k,.int .i64 x.ro,.int .i64 x.rn,.int .i64 x.l,.int .i64 x.r])∧Below w.heap.size w w':=by
 go_enter Tryz.func145,Tryz.ntmps145
 go_wp2
 go_returns
 exact ⟨rfl,by go_grown⟩
theorem Tryz.info151:(Tryz.prog.info? 151).map (fun i=>(i.zero,i.size,i.bytes))=some (some (.agg #[.int .i64 0,.int .i64 0,.int .i64 0,.int .i64 0,.int .i64 0]),5,40):=by kernel_rfl
theorem QU7 (a:Option Addr) (n cap:Nat) (zs:List qC5) (w:World) (hn:n≤1048576) (h:qB9 w a n zs) :
  Calls Tryz.prog 118 #[.slice a n cap] w fun e w'=>e = .returned (.slice (some ⟨w.heap.size,0,none⟩) n n)∧qN3 w' w.heap.size 0 zs∧w.heap.size < w'.heap.size∧Below w.heap.size w w'∧qY6 w' w.heap.size n:=by
 obtain ⟨i0,hi,hz0,hz1,hz2⟩:=info_parts Tryz.info151
 obtain ⟨wm,hmk,hownm,hgrm⟩:=run_make_full (P:=Tryz.prog) (w:=w) w.heap.size 116 151 i0 (.agg #[.int .i64 0,.int .i64 0,.int .i64 0,.int .i64 0,.int .i64 0]) 5 Tryz.underlying116 hi hz0 hz1 .i64 .i64 n (by rw [hz2];omega) (by unfold maxLen;omega) (Nat.le_refl _)
 have H:Hid (qB9 w a n zs):=h
 have hz:Hid (zs.length=n):=h.1
 clear h
 have HM:Hid (qY6 wm w.heap.size n∧w.heap.size < wm.heap.size):=by
  refine ⟨⟨fun j hj=>?_,fun j=>hownm.frozenAt j⟩,(hownm.lt _ rfl).2⟩
  have hl:=hownm.1
  exact ⟨_,(hownm.cellAt j hj).trans (List.getElem?_eq_getElem (by omega))⟩
 clear hownm
 have HG:Hid (w.grownBy wm none):=hgrm
 clear hgrm
 have hn':(n:Int)≤1048576:=by omega
 go_enter Tryz.func118,Tryz.ntmps118
 go_wp2
 go_loopw [4] (fun i wr=>∃ k:Nat,k≤n∧i = .int .i64 (k:Int)∧qY6 wr w.heap.size n∧qN3 wr w.heap.size 0 (zs.take k)∧w.heap.size < wr.heap.size∧Below w.heap.size w wr)
  (fun i _=>n - (intOf i).toNat)
 case atStart=>exact ⟨0,Nat.zero_le _,rfl,HM.out.1,fun k r e=>by simp at e,HM.out.2,(Below.refl _ _).grown HG.out (Nat.le_refl _) (fun k e=>by cases e)⟩
 case round =>
  obtain ⟨k,hk,rfl,hroom,hdone,hlt0,hnx⟩:=hrel
  by_cases hlt:k < n
  ·obtain ⟨b,off,s,rfl,hs,hr⟩:=H.out.at hlt
   have HS:Hid (zs[k]? = some s):=hs
   have hb:b < w.heap.size:=hr.lt
   clear hs
   obtain ⟨h0,h1,h2,h3,h4⟩:=hr.below hnx
   have HD:Hid (qY6 wr w.heap.size n∧qN3 wr w.heap.size 0 (zs.take k)):=⟨hroom,hdone⟩
   clear hroom hdone hr
   have hlt':(k:Int) < (n:Int):=by omega
   go_wp2_with fail
   refine (toPart_c s _).mono ?_
   rintro e w1 ⟨rfl,hb1⟩
   obtain ⟨⟨hc,hf⟩,hd⟩:=HD.out
   have hz1:=hb1.size
   have HD1:Hid (qY6 w1 w.heap.size n∧qN3 w1 w.heap.size 0 (zs.take k)∧Below w.heap.size w w1) :=
    ⟨⟨fun j hj=>by obtain ⟨v,e⟩:=hc j hj;exact ⟨v,(hb1.cell (p:=⟨w.heap.size,j,none⟩) hlt0).trans e⟩,fun j=>(hb1.frozen (p:=⟨w.heap.size,j,none⟩) hlt0).trans (hf j)⟩,hd.below hb1,hnx.trans (hb1.mono hnx.size)⟩
   clear hc hf hd HD h0 h1 h2 h3 h4
   obtain ⟨v0,c0⟩:=HD1.out.1.1 (k * 5) (by omega)
   obtain ⟨v1,c1⟩:=HD1.out.1.1 (k * 5+1) (by omega)
   obtain ⟨v2,c2⟩:=HD1.out.1.1 (k * 5+2) (by omega)
   obtain ⟨v3,c3⟩:=HD1.out.1.1 (k * 5+3) (by omega)
   obtain ⟨v4,c4⟩:=HD1.out.1.1 (k * 5+4) (by omega)
   have f0:=HD1.out.1.2 (k * 5)
   have f1:=HD1.out.1.2 (k * 5+1)
   have f2:=HD1.out.1.2 (k * 5+2)
   have f3:=HD1.out.1.2 (k * 5+3)
   have f4:=HD1.out.1.2 (k * 5+4)
   have RM:Hid (qY6 (put5 w1 w.heap.size (k * 5) s) w.heap.size n∧qN3 (put5 w1 w.heap.size (k * 5) s) w.heap.size 0 (zs.take (k+1))∧Below w.heap.size w (put5 w1 w.heap.size (k * 5) s)):=by
    have h2:=put5_room HD1.out.1 HD1.out.2.1 HS.out hlt
    exact ⟨h2.1,h2.2,put5_below HD1.out.2.2 (Nat.le_refl _) s⟩
   go_wp2
   exact ⟨⟨k+1,by omega,by go_num,RM.out.1,RM.out.2.1,by simp only [World.size_setCell];omega,RM.out.2.2⟩,by simp [intOf];omega⟩
  ·have hkn:k=n:=by omega
   subst hkn
   rw [List.take_of_length_le (by rw [hz.out];exact Nat.le_refl _)] at hdone
   go_wp2
   go_ret
   exact ⟨rfl,hdone,hlt0,hnx,hroom⟩
theorem eqPart_same (x:qC5) (w:World) :
  Calls Tryz.prog 151 #[.agg #[.int .i64 x.k,.int .i64 x.ro,.int .i64 x.rn,.int .i64 x.l,.int .i64 x.r],.agg #[.int .i64 x.k,.int .i64 x.ro,.int .i64 x.rn,.int .i64 x.l,.int .i64 x.r]] w fun e w'=>e = .returned (.bool true)∧Below w.heap.size w w':=by
 go_enter Tryz.func151,Tryz.ntmps151
 go_wp2
 go_ret
 exact ⟨rfl,by go_grown⟩
theorem QY7 (a b:Option Addr) (n c d:Nat) (zs:List qC5) (w:World) (hn:n≤1048576) (ha:qB9 w a n zs) (hb:qB9 w b n zs) :
  Calls Tryz.prog 123 #[.slice a n c,.slice b n d] w fun e w'=>e = .returned (.bool true)∧Below w.heap.size w w':=by
 have HA:Hid (qB9 w a n zs):=ha
 have HB:Hid (qB9 w b n zs):=hb
 clear ha hb
 have hn':(n:Int)≤1048576:=by omega
 go_enter Tryz.func123,Tryz.ntmps123
 go_wp2
 go_loopw [5] (fun i wr=>∃ k:Nat,k≤n∧i = .int .i64 (k:Int)∧Below w.heap.size w wr) (fun i _=>n - (intOf i).toNat)
 case atStart=>exact ⟨0,Nat.zero_le _,rfl,Below.refl _ _⟩
 case round =>
  obtain ⟨k,hk,rfl,hnx⟩:=hrel
  by_cases hlt:k < n
  ·obtain ⟨b1,o1,s,e1,hs,hr⟩:=HA.out.at hlt
   obtain ⟨b2,o2,s2,e2,hs2,hr2⟩:=HB.out.at hlt
   obtain rfl:s=s2:=Option.some.inj (hs.symm.trans hs2)
   subst e1 e2
   clear hs hs2
   obtain ⟨h0,h1,h2,h3,h4⟩:=hr.below hnx
   obtain ⟨g0,g1,g2,g3,g4⟩:=hr2.below hnx
   clear hr hr2
   have hlt':(k:Int) < (n:Int):=by omega
   have hb1:b1 < wr.heap.size:=zL wr ⟨b1,o1+k * 5,none⟩ h0
   have hb2:b2 < wr.heap.size:=zL wr ⟨b2,o2+k * 5,none⟩ g0
   go_wp2
   go_region_held3 (fun w'=>(∀ b o,b < wr.heap.size→w'.cell? ⟨b,o,none⟩=wr.cell? ⟨b,o,none⟩)∧Below wr.heap.size wr w') (first | exact hS | exact qB5 _)
    (first | (go_at_call 151;refine (eqPart_same s _).mono ?_;rintro e w' ⟨rfl,hb1⟩;have hS:=qA6 (by assumption) hb1))
   go_wp2
   exact ⟨⟨k+1,by omega,by go_num,hnx.trans (hS.2.mono hnx.size)⟩,by simp [intOf];omega⟩
  ·have hkn:k=n:=by omega
   subst hkn
   go_wp2
   go_ret
   exact ⟨rfl,hnx⟩

section
attribute [local go_sem ↓] ro_eql
theorem ro_neq (p q:RoI) (w:World):(binOp .neq 112 (.agg #[.int .i64 p.1,.int .i64 p.2]) (.agg #[.int .i64 q.1,.int .i64 q.2])).run Tryz.prog w = .ok (.bool (!eqRo p q)) w:=by
 obtain ⟨a0,a1⟩:=p
 obtain ⟨b0,b1⟩:=q
 simp only [eqRo]
 cases e0:(a0==b0)
 ·simp [go_sem,e0]
 cases e1:(a1==b1)
 ·simp [go_sem,e0,e1]
 ·simp [go_sem,e0,e1]
theorem qL9 (v lo hi:Int) (w:World):Calls Tryz.prog 51 #[.int .i64 v,.int .i64 lo,.int .i64 hi] w fun e w'=>e = .returned (.bool (decide (lo≤v)&&decide (v≤hi)))∧w=w':=by
 cases h0:decide (lo≤v)
 ·go_enter Tryz.func51,Tryz.ntmps51
  go_wp2
  go_ret
  exact ⟨by simp,rfl⟩
 ·cases h1:decide (v≤hi)
  all_goals
   go_enter Tryz.func51,Tryz.ntmps51
   go_wp2
   go_ret
   exact ⟨by simp,rfl⟩
theorem QX0 (v:Int) (k:Nat) (hk:k≤1000) (w:World):Calls Tryz.prog 210 #[.int .i64 v,.int .i64 (k:Int)] w fun e w'=>e = .returned (.bool (decide (0≤v)&&decide (v < (k:Int))))∧w=w':=by
 have hk':(k:Int)≤1000:=by omega
 cases h0:decide (0≤v)
 ·go_enter Tryz.func210,Tryz.ntmps210
  go_wp2
  go_ret
  exact ⟨by simp,rfl⟩
 ·cases h1:decide (v < (k:Int))
  all_goals
   go_enter Tryz.func210,Tryz.ntmps210
   go_wp2
   go_ret
   exact ⟨by simp,rfl⟩
theorem partFault_1 (x:qC5) (k:Nat) (w:World) (hk:k≤1000) (e1:x.k=1) :
  Calls Tryz.prog 196 #[.agg #[.int .i64 x.k,.int .i64 x.ro,.int .i64 x.rn,.int .i64 x.l,.int .i64 x.r],.int .i64 (k:Int)] w fun e w'=>e = .returned (.int .i64 (qI6 k x))∧Below w.heap.size w w':=by
 have hk':(k:Int)≤1000:=by omega
 have b1:(x.k==1)=true:=by simp [e1]
 obtain ⟨t,ht⟩:∃ t,qC8 x.ro x.rn=t:=⟨_,rfl⟩
 cases t
 ·have hp:qI6 k x=3:=by simp [qI6,e1,ht]
  have hc:qE1 x.ro x.rn=3:=by simp [qE1,ht]
  rw [hp]
  clear e1 ht hp
  go_enter Tryz.func196,Tryz.ntmps196
  go_wp2_with (first | (go_at_call 192;refine (qC3 _ _ _).mono ?_;rintro e w1 ⟨rfl,hb1⟩;rw [hc]) | fail)
  go_ret
  exact ⟨rfl,qD0 hb1⟩
 ·have hc:qE1 x.ro x.rn=0:=by simp [qE1,ht]
  obtain ⟨u,hu⟩:∃ u,(x.l != 0)=u:=⟨_,rfl⟩
  obtain ⟨v,hv⟩:∃ v,(x.r != 0)=v:=⟨_,rfl⟩
  have hp:qI6 k x=if (u || v)=true then 1 else 0:=by
   rw [← hu,← hv]
   simp only [qI6,e1,ht]
   by_cases q1:x.l=0 <;> by_cases q2:x.r=0 <;> simp [q1,q2]
  rw [hp]
  clear e1 ht hp
  cases u <;> cases v
  all_goals
   go_enter Tryz.func196,Tryz.ntmps196
   go_wp2_with (first | (go_at_call 192;refine (qC3 _ _ _).mono ?_;rintro e w1 ⟨rfl,hb1⟩;rw [hc];have q3:w1.cell? ⟨w.heap.size,3,none⟩=some (.int .i64 x.l):=(hb1.cell (p:=⟨w.heap.size,3,none⟩) (by simp)).trans (by simp);have q4:w1.cell? ⟨w.heap.size,4,none⟩=some (.int .i64 x.r):=(hb1.cell (p:=⟨w.heap.size,4,none⟩) (by simp)).trans (by simp)) | fail)
   go_ret
   exact ⟨rfl,qD0 hb1⟩
theorem QR2 (x:qC5) (k:Nat) (w:World) (e1:¬ (1≤x.k∧x.k≤3)) :
  Calls Tryz.prog 196 #[.agg #[.int .i64 x.k,.int .i64 x.ro,.int .i64 x.rn,.int .i64 x.l,.int .i64 x.r],.int .i64 (k:Int)] w fun e w'=>e = .returned (.int .i64 (qI6 k x))∧Below w.heap.size w w':=by
 have b1:(x.k==1)=false:=by simp;omega
 have b2:(x.k==2)=false:=by simp;omega
 have b3:(x.k==3)=false:=by simp;omega
 have hp:qI6 k x=1:=by simp only [qI6,if_pos e1]
 rw [hp]
 clear e1 hp
 go_enter Tryz.func196,Tryz.ntmps196
 go_wp2_with fail
 go_ret
 exact ⟨rfl,by go_grown⟩
theorem partFault_2 (x:qC5) (k:Nat) (w:World) (hk:k≤1000) (e1:x.k=2∨x.k=3) :
  Calls Tryz.prog 196 #[.agg #[.int .i64 x.k,.int .i64 x.ro,.int .i64 x.rn,.int .i64 x.l,.int .i64 x.r],.int .i64 (k:Int)] w fun e w'=>e = .returned (.int .i64 (qI6 k x))∧Below w.heap.size w w':=by
 have hk':(k:Int)≤1000:=by omega
 have b1:(x.k==1)=false:=by simp;omega
 obtain ⟨u,hu⟩:∃ u,(decide (0≤x.l)&&decide (x.l < (k:Int)))=u:=⟨_,rfl⟩
 obtain ⟨v,hv⟩:∃ v,(decide (0≤x.r)&&decide (x.r < (k:Int)))=v:=⟨_,rfl⟩
 obtain ⟨t,ht⟩:∃ t,eqRo (x.ro,x.rn) (0,0)=t:=⟨_,rfl⟩
 have hp:qI6 k x=if t=false then 1 else if u=false then 3 else if v=false then 3 else 0:=by
  have ek:¬ x.k=1:=by omega
  unfold qI6
  rw [if_neg (by omega),if_neg ek]
  have h1:t=true↔(x.ro=0∧x.rn=0):=by rw [← ht,qS2];simp
  have h2:u=true↔(0≤x.l∧x.l < (k:Int)):=by rw [← hu];simp
  have h3:v=true↔(0≤x.r∧x.r < (k:Int)):=by rw [← hv];simp
  simp only [← h1,← h2,← h3]
  cases t <;> cases u <;> cases v <;> simp
 rw [hp]
 have hn:∀ w,(binOp .neq 112 (.agg #[.int .i64 x.ro,.int .i64 x.rn]) (.agg #[.int .i64 0,.int .i64 0])).run Tryz.prog w = .ok (.bool (!t)) w:=fun w=>by rw [← ht];exact ro_neq (x.ro,x.rn) (0,0) w
 have HU:Hid ((decide (0≤x.l)&&decide (x.l < (k:Int)))=u):=hu
 have HV:Hid ((decide (0≤x.r)&&decide (x.r < (k:Int)))=v):=hv
 clear hp ht hu hv
 rcases e1 with e1 | e1
 ·have b2:(x.k==2)=true:=by simp;omega
  clear e1
  cases t
  ·go_enter Tryz.func196,Tryz.ntmps196
   go_wp2_with fail
   go_ret
   exact ⟨rfl,by go_grown⟩
  ·cases u <;> cases v
   all_goals
    go_enter Tryz.func196,Tryz.ntmps196
    go_wp2_with (first | (go_at_call 210;refine (QX0 _ _ hk _).mono ?_;rintro e w1 ⟨rfl,rfl⟩;first | rw [HU.out] | rw [HV.out]) | fail)
    go_ret
    exact ⟨rfl,by go_grown⟩
 ·have b2:(x.k==2)=false:=by simp;omega
  have b3:(x.k==3)=true:=by simp;omega
  clear e1
  cases t
  ·go_enter Tryz.func196,Tryz.ntmps196
   go_wp2_with fail
   go_ret
   exact ⟨rfl,by go_grown⟩
  ·cases u <;> cases v
   all_goals
    go_enter Tryz.func196,Tryz.ntmps196
    go_wp2_with (first | (go_at_call 210;refine (QX0 _ _ hk _).mono ?_;rintro e w1 ⟨rfl,rfl⟩;first | rw [HU.out] | rw [HV.out]) | fail)
    go_ret
    exact ⟨rfl,by go_grown⟩
theorem partFault_c (x:qC5) (k:Nat) (w:World) (hk:k≤1000) :
  Calls Tryz.prog 196 #[.agg #[.int .i64 x.k,.int .i64 x.ro,.int .i64 x.rn,.int .i64 x.l,.int .i64 x.r],.int .i64 (k:Int)] w fun e w'=>e = .returned (.int .i64 (qI6 k x))∧Below w.heap.size w w':=by
 by_cases h:1≤x.k∧x.k≤3
 ·by_cases h1:x.k=1
  ·exact partFault_1 x k w hk h1
  ·exact partFault_2 x k w hk (by omega)
 ·exact QR2 x k w h
theorem QS1 (a:Option Addr) (n cap:Nat) (zs:List qC5) (c:Int) (w:World) (h1:1≤n) (h8:n≤8) (h:qB9 w a n zs) (hc:QF3 zs n=c) :
  Calls Tryz.prog 173 #[.slice a n cap] w fun e w'=>e = .returned (.int .i64 c)∧Below w.heap.size w w':=by
 have H:Hid (qB9 w a n zs):=h
 have HC:Hid (QF3 zs n=c):=hc
 clear h hc
 have hn1:¬ ((n:Int) < 1):=by omega
 have hn8:¬ ((8:Int) < (n:Int)):=by omega
 have hn':(n:Int)≤8:=by omega
 go_enter Tryz.func173,Tryz.ntmps173
 go_wp2
 go_loopw [16] (fun i wr=>∃ k:Nat,k≤n∧i = .int .i64 (k:Int)∧QF3 zs k=0∧Below w.heap.size w wr) (fun i _=>n - (intOf i).toNat)
 case atStart=>exact ⟨0,Nat.zero_le _,rfl,rfl,Below.refl _ _⟩
 case round =>
  obtain ⟨k,hk,rfl,hp,hnx⟩:=hrel
  have HP:Hid (QF3 zs k=0):=hp
  clear hp
  by_cases hlt:k < n
  ·obtain ⟨b,off,x,rfl,hs,hx⟩:=H.out.at hlt
   have HN:Hid (QF3 zs (k+1)=qI6 k x):=QI1 hs HP.out
   clear hs
   obtain ⟨g0,g1,g2,g3,g4⟩:=hx.below hnx
   clear hx
   have hlt':(k:Int) < (n:Int):=by omega
   go_wp2_with fail
   refine (partFault_c x k _ (by omega)).mono ?_
   rintro e w1 ⟨rfl,hb1⟩
   have hnx1:Below w.heap.size w w1:=hnx.trans ((qD0 hb1).mono hnx.size)
   clear hb1 g0 g1 g2 g3 g4
   by_cases hz:qI6 k x=0
   ·have HE:Hid (QF3 zs (k+1)=0):=HN.out.trans hz
    rw [hz]
    clear hz
    go_wp2
    exact ⟨⟨k+1,by omega,by go_num,HE.out,hnx1⟩,by simp [intOf];omega⟩
   ·have E:Hid (c=qI6 k x):=HC.out.symm.trans (QI0 zs (k+1) n _ hz HN.out (by omega))
    have hzb:(qI6 k x != 0)=true:=by simpa using hz
    clear hz
    go_wp2
    go_ret
    exact ⟨by rw [E.out];rfl,hnx1⟩
  ·have hkn:k=n:=by omega
   subst hkn
   go_wp2
   go_ret
   exact ⟨by rw [← HC.out,HP.out];rfl,hnx⟩
theorem qV4 (a:Option Addr) (n cap:Nat) (zs:List qC5) (w:World) (hm:n≤maxLen) (h:qB9 w a n zs) :
  Calls Tryz.prog 173 #[.slice a n cap] w fun e w'=>e = .returned (.int .i64 (qL6 zs))∧Below w.heap.size w w':=by
 have hl:=h.1
 unfold maxLen at hm
 have hm':(n:Int)≤9223372036854775807:=by omega
 unfold qL6
 rw [hl]
 by_cases h1:n < 1
 ·have h1':(n:Int) < 1:=by omega
  rw [if_pos h1]
  clear h hl h1
  go_enter Tryz.func173,Tryz.ntmps173
  go_wp2
  go_ret
  exact ⟨rfl,Below.refl _ _⟩
 ·rw [if_neg h1]
  by_cases h8:8 < n
  ·have h1':¬ ((n:Int) < 1):=by omega
   have h8':(8:Int) < (n:Int):=by omega
   rw [if_pos h8]
   clear h hl h1 h8
   go_enter Tryz.func173,Tryz.ntmps173
   go_wp2
   go_ret
   exact ⟨rfl,Below.refl _ _⟩
  ·rw [if_neg h8]
   exact QS1 a n cap zs _ w (by omega) (by omega) h rfl
end

theorem l4Fault_few (a:Option Addr) (n cap:Nat) (zs:List qC5) (c:Int) (w:World) (h1:1≤n) (h8:n≤8) (h:qB9 w a n zs) (hc:QF3 zs n=c) :
  Calls Tryz.prog 115 #[.slice a n cap] w fun e w'=>e = .returned (.int .i64 c)∧Below w.heap.size w w':=by
 have H:Hid (qB9 w a n zs):=h
 have HC:Hid (QF3 zs n=c):=hc
 clear h hc
 have hn1:¬ ((n:Int) < 1):=by omega
 have hn8:¬ ((8:Int) < (n:Int)):=by omega
 have hn':(n:Int)≤8:=by omega
 go_enter Tryz.func115,Tryz.ntmps115
 go_wp2
 go_loopw [3] (fun i wr=>∃ k:Nat,k≤n∧i = .int .i64 (k:Int)∧QF3 zs k=0∧Below w.heap.size w wr) (fun i _=>n - (intOf i).toNat)
 case atStart=>exact ⟨0,Nat.zero_le _,rfl,rfl,Below.refl _ _⟩
 case round =>
  obtain ⟨k,hk,rfl,hp,hnx⟩:=hrel
  have HP:Hid (QF3 zs k=0):=hp
  clear hp
  by_cases hlt:k < n
  ·obtain ⟨b,off,x,rfl,hs,hx⟩:=H.out.at hlt
   have HN:Hid (QF3 zs (k+1)=qI6 k x):=QI1 hs HP.out
   have HST:Hid (∀ d:Int,qI6 k x=d→d≠0→c=d):=fun d e q=>HC.out.symm.trans (QI0 zs (k+1) n d q (HN.out.trans e) (by omega))
   clear hs
   obtain ⟨g0,g1,g2,g3,g4⟩:=hx.below hnx
   clear hx
   have hlt':(k:Int) < (n:Int):=by omega
   have hk8:(k:Int)≤8:=by omega
   have A5:Below w.heap.size w (wr.alloc (.cells #[.int .i64 x.k,.int .i64 x.ro,.int .i64 x.rn,.int .i64 x.l,.int .i64 x.r] 151)):=hnx.alloc hnx.size _
   obtain ⟨t0,ht0⟩:∃ t0,(decide (1≤x.k)&&decide (x.k≤3))=t0:=⟨_,rfl⟩
   have HK:Hid ((decide (1≤x.k)&&decide (x.k≤3))=t0):=ht0
   cases t0
   ·have E:Hid (c=1):=HST.out 1 (by unfold qI6;rw [if_pos (by simp at ht0;omega)]) (by decide)
    clear ht0
    go_wp2_with (first | (go_at_call 51;refine (qL9 _ _ _ _).mono ?_;rintro e w1 ⟨rfl,rfl⟩;rw [HK.out]) | fail)
    go_ret
    exact ⟨by rw [E.out];rfl,A5⟩
   ·simp at ht0
    by_cases ek:x.k=1
    ·have b1:(x.k==1)=true:=by simp [ek]
     obtain ⟨t,ht⟩:∃ t,qC8 x.ro x.rn=t:=⟨_,rfl⟩
     have HT:Hid (qC8 x.ro x.rn=t):=ht
     cases t
     ·have E:Hid (c=3):=HST.out 3 (by simp [qI6,ek,ht]) (by decide)
      clear ht0 ek ht
      go_wp2_with (first | (go_at_call 51;refine (qL9 _ _ _ _).mono ?_;rintro e w1 ⟨rfl,rfl⟩;rw [HK.out]) | (go_at_call 144;refine (qP3 _ _ _).mono ?_;rintro e w2 ⟨rfl,hb2⟩;rw [HT.out]) | fail)
      go_ret
      exact ⟨by rw [E.out];rfl,hnx.trans ((qD0 hb2).mono hnx.size)⟩
     ·obtain ⟨u,hu⟩:∃ u,(x.l != 0)=u:=⟨_,rfl⟩
      obtain ⟨v,hv⟩:∃ v,(x.r != 0)=v:=⟨_,rfl⟩
      have hp:qI6 k x=if (u || v)=true then 1 else 0:=by
       rw [← hu,← hv]
       simp only [qI6,ek,ht]
       by_cases q1:x.l=0 <;> by_cases q2:x.r=0 <;> simp [q1,q2]
      have HPP:Hid (qI6 k x=if (u || v)=true then 1 else 0):=hp
      clear ht0 ek ht hp
      cases u <;> cases v
      ·have HE:Hid (QF3 zs (k+1)=0):=HN.out.trans HPP.out
       go_wp2_with (first | (go_at_call 51;refine (qL9 _ _ _ _).mono ?_;rintro e w1 ⟨rfl,rfl⟩;rw [HK.out]) | (go_at_call 144;refine (qP3 _ _ _).mono ?_;rintro e w2 ⟨rfl,hb2⟩;rw [HT.out];have q3:w2.cell? ⟨wr.heap.size,3,none⟩=some (.int .i64 x.l):=(hb2.cell (p:=⟨wr.heap.size,3,none⟩) (by simp)).trans (by simp);have q4:w2.cell? ⟨wr.heap.size,4,none⟩=some (.int .i64 x.r):=(hb2.cell (p:=⟨wr.heap.size,4,none⟩) (by simp)).trans (by simp)) | fail)
       exact ⟨⟨k+1,by omega,by go_num,HE.out,hnx.trans ((qD0 hb2).mono hnx.size)⟩,by simp [intOf];omega⟩
      all_goals
       have E:Hid (c=1):=HST.out 1 HPP.out (by decide)
       go_wp2_with (first | (go_at_call 51;refine (qL9 _ _ _ _).mono ?_;rintro e w1 ⟨rfl,rfl⟩;rw [HK.out]) | (go_at_call 144;refine (qP3 _ _ _).mono ?_;rintro e w2 ⟨rfl,hb2⟩;rw [HT.out];have q3:w2.cell? ⟨wr.heap.size,3,none⟩=some (.int .i64 x.l):=(hb2.cell (p:=⟨wr.heap.size,3,none⟩) (by simp)).trans (by simp);have q4:w2.cell? ⟨wr.heap.size,4,none⟩=some (.int .i64 x.r):=(hb2.cell (p:=⟨wr.heap.size,4,none⟩) (by simp)).trans (by simp)) | fail)
       go_ret
       exact ⟨by rw [E.out];rfl,hnx.trans ((qD0 hb2).mono hnx.size)⟩
    ·have b1:(x.k==1)=false:=by simp [ek]
     obtain ⟨u,hu⟩:∃ u,(decide (0≤x.l)&&decide (x.l≤(k:Int) - 1))=u:=⟨_,rfl⟩
     obtain ⟨v,hv⟩:∃ v,(decide (0≤x.r)&&decide (x.r≤(k:Int) - 1))=v:=⟨_,rfl⟩
     obtain ⟨t,ht⟩:∃ t,eqRo (x.ro,x.rn) (0,0)=t:=⟨_,rfl⟩
     have hp:qI6 k x=if t=false then 1 else if u=false then 3 else if v=false then 3 else 0:=by
      unfold qI6
      rw [if_neg (by omega),if_neg ek]
      have h1:t=true↔(x.ro=0∧x.rn=0):=by rw [← ht,qS2];simp
      have h2:u=true↔(0≤x.l∧x.l < (k:Int)):=by rw [← hu];simp;omega
      have h3:v=true↔(0≤x.r∧x.r < (k:Int)):=by rw [← hv];simp;omega
      simp only [← h1,← h2,← h3]
      cases t <;> cases u <;> cases v <;> simp
     have hn:∀ w,(binOp .neq 112 (.agg #[.int .i64 x.ro,.int .i64 x.rn]) (.agg #[.int .i64 0,.int .i64 0])).run Tryz.prog w = .ok (.bool (!t)) w:=fun w=>by rw [← ht];exact ro_neq (x.ro,x.rn) (0,0) w
     have HPP:Hid (qI6 k x=if t=false then 1 else if u=false then 3 else if v=false then 3 else 0):=hp
     have HU:Hid ((decide (0≤x.l)&&decide (x.l≤(k:Int) - 1))=u):=hu
     have HV:Hid ((decide (0≤x.r)&&decide (x.r≤(k:Int) - 1))=v):=hv
     have A7:Below w.heap.size w ((wr.alloc (.cells #[.int .i64 x.k,.int .i64 x.ro,.int .i64 x.rn,.int .i64 x.l,.int .i64 x.r] 151)).alloc (.cells #[.int .i64 0,.int .i64 0] 112)):=A5.alloc A5.size _
     clear ht0 ek ht hu hv hp
     cases t
     ·have E:Hid (c=1):=HST.out 1 HPP.out (by decide)
      go_wp2_with (first | (go_at_call 51;refine (qL9 _ _ _ _).mono ?_;rintro e w1 ⟨rfl,rfl⟩;rw [HK.out]) | fail)
      go_ret
      exact ⟨by rw [E.out];rfl,A7⟩
     ·cases u
      ·have E:Hid (c=3):=HST.out 3 HPP.out (by decide)
       go_wp2_with (first | (go_at_call 51;refine (qL9 _ _ _ _).mono ?_;rintro e w1 ⟨rfl,rfl⟩;first | rw [HK.out] | rw [HU.out] | rw [HV.out]) | fail)
       go_ret
       exact ⟨by rw [E.out];rfl,A7⟩
      ·cases v
       ·have E:Hid (c=3):=HST.out 3 HPP.out (by decide)
        go_wp2_with (first | (go_at_call 51;refine (qL9 _ _ _ _).mono ?_;rintro e w1 ⟨rfl,rfl⟩;first | rw [HK.out] | rw [HU.out] | rw [HV.out]) | fail)
        go_ret
        exact ⟨by rw [E.out];rfl,A7⟩
       ·have HE:Hid (QF3 zs (k+1)=0):=HN.out.trans HPP.out
        go_wp2_with (first | (go_at_call 51;refine (qL9 _ _ _ _).mono ?_;rintro e w1 ⟨rfl,rfl⟩;first | rw [HK.out] | rw [HU.out] | rw [HV.out]) | fail)
        exact ⟨⟨k+1,by omega,by go_num,HE.out,A7⟩,by simp [intOf];omega⟩
  ·have hkn:k=n:=by omega
   subst hkn
   go_wp2
   go_ret
   exact ⟨by rw [← HC.out,HP.out];rfl,hnx⟩
theorem l4Fault_c (a:Option Addr) (n cap:Nat) (zs:List qC5) (w:World) (hm:n≤maxLen) (h:qB9 w a n zs) :
  Calls Tryz.prog 115 #[.slice a n cap] w fun e w'=>e = .returned (.int .i64 (qL6 zs))∧Below w.heap.size w w':=by
 have hl:=h.1
 unfold maxLen at hm
 have hm':(n:Int)≤9223372036854775807:=by omega
 unfold qL6
 rw [hl]
 by_cases h1:n < 1
 ·have h1':(n:Int) < 1:=by omega
  rw [if_pos h1]
  clear h hl h1
  go_enter Tryz.func115,Tryz.ntmps115
  go_wp2
  go_ret
  exact ⟨rfl,Below.refl _ _⟩
 ·rw [if_neg h1]
  by_cases h8:8 < n
  ·have h1':¬ ((n:Int) < 1):=by omega
   have h8':(8:Int) < (n:Int):=by omega
   rw [if_pos h8]
   clear h hl h1 h8
   go_enter Tryz.func115,Tryz.ntmps115
   go_wp2
   go_ret
   exact ⟨rfl,Below.refl _ _⟩
  ·rw [if_neg h8]
   exact l4Fault_few a n cap zs _ w (by omega) (by omega) h rfl

end Go.Proofs.YtlhgjackapdmbaaGreatDoor
