/- Contracts. -/
import Derived.Test.YtlhgjackapdmbaaGreatDoorPe03
import Derived.WalkSmall
import Derived.BigQuiet
import Derived.Deep.QuietTactic
import Derived.Scope
import Derived.ScopeJumps
import Derived.WalkMore
namespace Go.Proofs.YtlhgjackapdmbaaGreatDoor
set_option maxRecDepth 100000
set_option maxHeartbeats 8000000
open Go.RowKit
set_option linter.unusedVariables false
set_option linter.unusedSimpArgs false

def RowIn (w:World) (a:Option Addr) (len:Nat) (zs:List Int):Prop :=
 len≤zs.length∧∀ k,k < len→∃ b off,a=some ⟨b,off,none⟩∧w.cell? ⟨b,off+k,none⟩=some (.int .i64 (zs[k]?.getD 0))
theorem rows_done {n:Nat} {ys:List Value} {zs:List Int} (hz:n≤zs.length) (hl:ys.length=n) (h:∀ j,j < n→ys[j]? = some (.int .i64 (zs[j]?.getD 0))):ys=(zs.take n).map (Value.int .i64):=by
 apply List.ext_getElem?
 intro i
 by_cases hi:i < n
 ·rw [h i hi];simp [hi,List.getElem?_eq_getElem (show i < zs.length by omega)]
 ·rw [List.getElem?_eq_none (by omega),List.getElem?_eq_none (by simp;omega)]
theorem toS_c (a0:Option Addr) (len cap:Nat) (zs:List Int) (w:World) (hl:len≤1048576) (hr:RowIn w a0 len zs) :
  Calls Tryz.prog 62 #[.slice a0 len cap] w fun e w'=>e = .returned (.slice (some ⟨w.heap.size,0,none⟩) len len) ∧
   w'.ownsRow w.heap.size 2 1 (.slice (some ⟨w.heap.size,0,none⟩) len len) len ((zs.take len).map (Value.int .i64))∧Below w.heap.size w w':=by
 obtain ⟨i0,hi,hz0,hz1,hz2⟩:=info_parts Tryz.info2
 obtain ⟨wm,hmk,hownm,hgrm⟩:=run_make_full (P:=Tryz.prog) (w:=w) w.heap.size 61 2 i0 (.int .i64 0) 1 Tryz.underlying61 hi hz0 hz1 .i64 .i64 len (by rw [hz2];omega) (by unfold maxLen;omega) (Nat.le_refl _)
 obtain ⟨hzl,hcs⟩:=hr
 have HC:Hid (∀ k,k < len→∃ b off,a0=some ⟨b,off,none⟩∧w.cell? ⟨b,off+k,none⟩=some (.int .i64 (zs[k]?.getD 0))):=hcs
 clear hcs
 have HM:Hid (wm.ownsRow w.heap.size 2 1 (.slice (some ⟨w.heap.size,0,none⟩) len len) len (madeCells (Value.int .i64 0).cells (len * 1)).toList):=hownm
 clear hownm
 have HG:Hid (w.grownBy wm none):=hgrm
 clear hgrm
 have hl':(len:Int)≤1048576:=by omega
 go_enter Tryz.func62,Tryz.ntmps62
 go_wp2
 go_loopw [4] (fun i wr=>∃ (k:Nat) (ys:List Value),k≤len∧i = .int .i64 (k:Int)∧wr.ownsRow w.heap.size 2 1 (.slice (some ⟨w.heap.size,0,none⟩) len len) len ys∧(∀ j,j < k→ys[j]? = some (.int .i64 (zs[j]?.getD 0)))∧Below w.heap.size w wr)
  (fun i _=>len - (intOf i).toNat)
 case atStart=>exact ⟨0,_,Nat.zero_le _,rfl,HM.out,fun j hj=>by omega,(Below.refl _ _).grown HG.out (Nat.le_refl _) (fun k e=>by cases e)⟩
 case round =>
  obtain ⟨k,ys,hk,rfl,hown,hys,hnx⟩:=hrel
  by_cases hlt:k < len
  ·obtain ⟨b,off,ha,hc⟩:=HC.out k hlt
   subst ha
   obtain ⟨y,hy⟩:∃ y,y=zs[k]?.getD 0:=⟨_,rfl⟩
   rw [← hy] at hc
   have hb:b < w.heap.size:=zL w ⟨b,off+k,none⟩ hc
   have hcr:wr.cell? ⟨b,off+k,none⟩=some (.int .i64 y):=(hnx.cell (p:=⟨b,off+k,none⟩) hb).trans hc
   have hlen:ys.length=len:=by simpa using hown.1
   obtain ⟨v0,hco⟩:∃ v0,wr.cell? ⟨w.heap.size,k,none⟩=some v0:=⟨_,(hown.cellAt k (by omega)).trans (List.getElem?_eq_getElem (show k < ys.length by omega))⟩
   have hfo:=hown.frozenAt k
   have hst:=hown.stored k (.int .i64 y)
   have R:Hid ((wr.setCell ⟨w.heap.size,k,none⟩ (.int .i64 y)).ownsRow w.heap.size 2 1 (.slice (some ⟨w.heap.size,0,none⟩) len len) len (ys.set k (.int .i64 y))∧(∀ j,j < k+1→(ys.set k (.int .i64 y))[j]? = some (.int .i64 (zs[j]?.getD 0)))∧Below w.heap.size w (wr.setCell ⟨w.heap.size,k,none⟩ (.int .i64 y))):=by
    refine ⟨hst.1,fun j hj=>?_,hnx.setCell (Nat.le_refl _) _⟩
    by_cases e:j=k
    ·subst e;rw [List.getElem?_set_self (by omega),hy]
    ·rw [List.getElem?_set_ne (by omega)];exact hys j (by omega)
   clear hst hown hys hy hc hlen
   have hlt':(k:Int) < (len:Int):=by omega
   go_wp2
   go_roundw
   case rel=>exact ⟨k+1,_,by omega,by go_num,R.out.1,R.out.2.1,R.out.2.2⟩
   case measure=>simp [intOf];omega
  ·have hkn:k=len:=by omega
   subst hkn
   have E:=rows_done hzl (by simpa using hown.1) hys
   rw [E] at hown
   go_wp2
   go_ret
   exact ⟨rfl,hown,hnx⟩
theorem eqS_same (a b:Option Addr) (n c d:Nat) (zs:List Int) (w:World) (hn:n≤1048576)
  (ha:∀ k,k < n→∃ g off,a=some ⟨g,off,none⟩∧w.cell? ⟨g,off+k,none⟩=some (.int .i64 (zs[k]?.getD 0))) (hb:∀ k,k < n→∃ g off,b=some ⟨g,off,none⟩∧w.cell? ⟨g,off+k,none⟩=some (.int .i64 (zs[k]?.getD 0))) :
  Calls Tryz.prog 70 #[.slice a n c,.slice b n d] w fun e w'=>e = .returned (.bool true)∧Below w.heap.size w w':=by
 have HA:Hid (∀ k,k < n→∃ g off,a=some ⟨g,off,none⟩∧w.cell? ⟨g,off+k,none⟩=some (.int .i64 (zs[k]?.getD 0))):=ha
 have HB:Hid (∀ k,k < n→∃ g off,b=some ⟨g,off,none⟩∧w.cell? ⟨g,off+k,none⟩=some (.int .i64 (zs[k]?.getD 0))):=hb
 clear ha hb
 have hn':(n:Int)≤1048576:=by omega
 go_enter Tryz.func70,Tryz.ntmps70
 go_wp2
 go_loopw [5] (fun i wr=>∃ (k:Nat),k≤n∧i = .int .i64 (k:Int)∧∃ m,wr=w.drewN m) (fun i _=>n - (intOf i).toNat)
 case atStart=>exact ⟨0,Nat.zero_le _,rfl,0,rfl⟩
 case round =>
  obtain ⟨k,hk,rfl,m,rfl⟩:=hrel
  by_cases hlt:k < n
  ·obtain ⟨g,off,e1,hca⟩:=HA.out k hlt
   obtain ⟨g2,off2,e2,hcb⟩:=HB.out k hlt
   subst e1 e2
   obtain ⟨y,hy⟩:∃ y,y=zs[k]?.getD 0:=⟨_,rfl⟩
   rw [← hy] at hca hcb
   clear hy
   have hlt':(k:Int) < (n:Int):=by omega
   go_wp2
   go_quiet (fail)
   go_wp2
   exact ⟨⟨k+1,by omega,by go_num,_,rfl⟩,by simp [intOf];omega⟩
  ·have hkn:k=n:=by omega
   subst hkn
   go_wp2
   go_ret
   exact ⟨rfl,below_drewN (Below.refl _ _) _⟩
theorem owned_cells {w:World} {base g len cap:Nat} {zs:List Int} (h:w.ownsRow base 2 1 (.slice (some ⟨g,0,none⟩) len cap) len ((zs.take len).map (Value.int .i64))) (hz:len≤zs.length) :
  ∀ k,k < len→w.cell? ⟨g,k,none⟩=some (.int .i64 (zs[k]?.getD 0)):=by
 intro k hk
 rw [h.cellAt k (by omega)]
 simp [hk,List.getElem?_eq_getElem (show k < zs.length by omega)]
theorem owned_lt {w:World} {base g len cap:Nat} {xs:List Value} (h:w.ownsRow base 2 1 (.slice (some ⟨g,0,none⟩) len cap) len xs):g < w.heap.size:=(h.lt g rfl).2

section
open Go
def qU6 (J:Nat→Act→World→Prop) (Q:Exit→Act→World→Prop):Exit→Act→World→Prop
 | .goto l,a,w=>J l a w
 | e,a,w=>Q e a w
theorem wp_weaken {P:Program} {c:Code} {Q Q':Exit→Act→World→Prop} {a:Act} {w:World} (h:c.wp P Q a w) (hq:∀ e a w,Q e a w→Q' e a w):c.wp P Q' a w:=by
 intro b k cs
 obtain ⟨e,a',w',h1,h2⟩:=h b k cs
 exact ⟨e,a',w',hq e a' w' h1,h2⟩
theorem QJ1 {P:Program} {c:Code} {Q:Exit→Act→World→Prop} {a:Act} {w:World} (rest:Nat→Code) (J:Nat→Nat→Act→World→Prop) (hf:∀ l m a w,J l m a w→findLabel c l=some (rest l))
  (first:c.wp P (qU6 (fun l a' w'=>∃ m,J l m a' w') Q) a w)
  (pass:∀ l m a w,J l m a w→(rest l).wp P (qU6 (fun l' a' w'=>∃ m',m' < m∧J l' m' a' w') Q) a w):(Code.scope c).wp P Q a w:=by
 intro b k cs
 have again:∀ m l a w,J l m a w→∃ e a' w',Q e a' w'∧Arrives P (lone (b.at a (.code (rest l) :: .inScope c::k)) cs w) b k cs e a' w':=by
  intro m
  induction m using Nat.strongRecOn with
  | _ m ih =>
   intro l a w hJ
   obtain ⟨e,a1,w1,hq,har⟩:=pass l m a w hJ b (.inScope c::k) cs
   cases e with
   | goto l' =>
    obtain ⟨m',hlt,hJ'⟩:=hq
    obtain ⟨e2,a2,w2,hq2,har2⟩:=ih m' hlt l' a1 w1 hJ'
    have hg:gotoIn l' (.inScope c::k)=some (.code (rest l') :: .inScope c::k):=by simp [gotoIn,hf l' m' a1 w1 hJ']
    exact ⟨e2,a2,w2,hq2,.of_steps (har _ hg) har2⟩
   | normal=>exact ⟨.normal,a1,w1,hq,Steps.trans har (.one step_inScope)⟩
   | exit id=>exact ⟨.exit id,a1,w1,hq,fun k' hk=>har k' (by simp [exitTo,hk])⟩
   | ret=>exact ⟨_,a1,w1,hq,har⟩
   | panic ch=>exact ⟨_,a1,w1,hq,har⟩
   | outgrown=>exact ⟨_,a1,w1,hq,har⟩
 obtain ⟨e,a1,w1,hq,har⟩:=first b (.inScope c::k) cs
 cases e with
 | goto l =>
  obtain ⟨m,hJ⟩:=hq
  obtain ⟨e2,a2,w2,hq2,har2⟩:=again m l a1 w1 hJ
  have hg:gotoIn l (.inScope c::k)=some (.code (rest l) :: .inScope c::k):=by simp [gotoIn,hf l m a1 w1 hJ]
  exact ⟨e2,a2,w2,hq2,.of_steps (.head step_scope (har _ hg)) har2⟩
 | normal=>exact ⟨.normal,a1,w1,hq,.head step_scope (Steps.trans har (.one step_inScope))⟩
 | exit id=>exact ⟨.exit id,a1,w1,hq,fun k' hk => .head step_scope (har k' (by simp [exitTo,hk]))⟩
 | ret=>exact ⟨_,a1,w1,hq,.of_steps (.one step_scope) har⟩
 | panic ch=>exact ⟨_,a1,w1,hq,.of_steps (.one step_scope) har⟩
 | outgrown=>exact ⟨_,a1,w1,hq,.of_steps (.one step_scope) har⟩
theorem jumps_weaken {J:Nat→Act→World→Prop} {J':Nat→Act→World→Prop} {Q:Exit→Act→World→Prop} (h:∀ l a w,J l a w→J' l a w):∀ e a w,qU6 J Q e a w→qU6 J' Q e a w
 | .goto l,a,w,q=>h l a w q
 | .normal,_,_,q=>q
 | .exit _,_,_,q=>q
 | .ret,_,_,q=>q
 | .panic _,_,_,q=>q
 | .outgrown,_,_,q=>q
def two (x y:Code):Nat→Code
 | 0=>x
 | _=>y
theorem QX3 {P:Program} {c r0 r1:Code} {Q:Exit→Act→World→Prop} {a:Act} {w:World} (J:Nat→Nat→Act→World→Prop) (hf0:findLabel c 0=some (Code.seq .skip r0)) (hf1:findLabel c 1=some (Code.seq .skip r1)) (hJ:∀ l m a w,J l m a w→l=0∨l=1)
  (first:(∀ m a w,J 0 m a w→r0.wp P (qU6 (fun l' a' w'=>∃ m',m' < m∧J l' m' a' w') Q) a w)→c.wp P (qU6 (fun l a' w'=>∃ m,J l m a' w') Q) a w)
  (core0:∀ m a w,J 0 m a w→r0.wp P (qU6 (fun l' a' w'=>∃ m',m' < m∧J l' m' a' w') Q) a w)
  (core1:∀ m a w,J 1 m a w→r1.wp P (qU6 (fun l' a' w'=>∃ m',m' < m∧J l' m' a' w') Q) a w):(Code.scope c).wp P Q a w:=by
 refine QJ1 (two (Code.seq .skip r0) (Code.seq .skip r1)) J ?_ (first core0) ?_
 ·intro l m a w h
  rcases hJ l m a w h with rfl | rfl
  ·exact hf0
  ·exact hf1
 ·intro l m a w h
  rcases hJ l m a w h with rfl | rfl
  ·exact wp_seq (wp_skip (core0 m a w h))
  ·exact wp_seq (wp_skip (core1 m a w h))
end

end Go.Proofs.YtlhgjackapdmbaaGreatDoor
