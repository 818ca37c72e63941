/- Contracts. -/
import Derived.Test.YtdppdbihhlipeaaGreatDoorPl01
import Derived.ProofKit
import Derived.Outline
import Derived.Handy
import Derived.Laws.StructEq
import Derived.BigQuiet
import Derived.Deep.QuietTactic
import Derived.WalkSmall
namespace Go.Proofs.YtdppdbihhlipeaaGreatDoor
set_option maxRecDepth 100000
set_option maxHeartbeats 8000000
open Go.RowKit
set_option linter.unusedVariables false
set_option linter.unusedSimpArgs false

theorem qC1 {w w1:World} {o:Obj} (h:Below (w.alloc o).heap.size (w.alloc o) w1):Below w.heap.size w w1:=(zN).trans (h.mono (by simp))
theorem QE8 (p:Int) (w:World) :
  Calls Tryz.prog 176 #[.int .i64 p] w fun e w'=>e = .returned (.bool (qU4 p))∧w=w':=by
 unfold qU4
 go_each [1≤p,p≤8]=>(go_enter Tryz.func176,Tryz.ntmps176;go_wp2;go_ret;exact ⟨by simp [*],rfl⟩)
theorem l2Name_c (p:Int) (w:World) :
  Calls Tryz.prog 177 #[.int .i64 p] w fun e w'=>e = .returned (.bool (qV5 p))∧w=w':=by
 unfold qV5
 go_each [1≤p,p≤5]=>(go_enter Tryz.func177,Tryz.ntmps177;go_wp2;go_ret;exact ⟨by simp [*],rfl⟩)
theorem isPrin_c (p:Int) (w:World) :
  Calls Tryz.prog 206 #[.int .i64 p] w fun e w'=>e = .returned (.bool (qU4 p))∧w=w':=by
 unfold qU4
 go_each [1≤p,p≤8]=>(go_enter Tryz.func206,Tryz.ntmps206;go_wp2;go_ret;exact ⟨by simp [*],rfl⟩)
theorem isName_c (p:Int) (w:World) :
  Calls Tryz.prog 217 #[.int .i64 p] w fun e w'=>e = .returned (.bool (qV5 p))∧w=w':=by
 unfold qV5
 go_each [1≤p,p≤5]=>(go_enter Tryz.func217,Tryz.ntmps217;go_wp2;go_ret;exact ⟨by simp [*],rfl⟩)
theorem qQ7 (o n:Int) (w:World) :
  Calls Tryz.prog 146 #[.agg #[.int .i64 o,.int .i64 n]] w fun e w'=>e = .returned (.bool (qC9 o n))∧Below w.heap.size w w':=by
 unfold qC9
 cases hp:qU4 o <;> cases hn:qV5 n
 all_goals
  go_enter Tryz.func146,Tryz.ntmps146
  go_wp2_with (first | (go_at_call 176;refine (QE8 o _).mono ?_;rintro e w' ⟨rfl,rfl⟩;rw [hp]) | (go_at_call 177;refine (l2Name_c n _).mono ?_;rintro e w' ⟨rfl,rfl⟩;rw [hn]))
  go_ret
  exact ⟨rfl,by go_grown⟩
theorem qC5 (o n:Int) (w:World) :
  Calls Tryz.prog 197 #[.agg #[.int .i64 o,.int .i64 n]] w fun e w'=>e = .returned (.int .i64 (qE6 o n))∧Below w.heap.size w w':=by
 unfold qE6 qC9
 cases hp:qU4 o <;> cases hn:qV5 n
 all_goals
  go_enter Tryz.func197,Tryz.ntmps197
  go_wp2_with (first | (go_at_call 206;refine (isPrin_c o _).mono ?_;rintro e w' ⟨rfl,rfl⟩;rw [hp]) | (go_at_call 217;refine (isName_c n _).mono ?_;rintro e w' ⟨rfl,rfl⟩;rw [hn]))
  go_ret
  exact ⟨rfl,by go_grown⟩

theorem bdN {B:Nat} {a w:World} (h:Below B a w) (n:Nat):Below B a (w.drewN n):=h.trans ⟨rfl,rfl,rfl,Nat.le_refl _,fun _ _=>rfl⟩
theorem l2Bare_c (g off:Nat) (r:qA0) (w:World) (h:qC2 w g off r) (hk:1≤r.k∧r.k≤4) :
  Calls Tryz.prog 175 #[.pointer (some ⟨g,off,none⟩)] w fun e w'=>e = .returned (.bool (QO4 r))∧Below w.heap.size w w':=by
 obtain ⟨k,ho,hn,wh,oo,on,tw,tn⟩:=r
 obtain ⟨h0,h1,h2,h3,h4,h5,h6,h7⟩:=h
 simp only at h0 h1 h2 h3 h4 h5 h6 h7 hk
 have hg:g < w.heap.size:=zL w ⟨g,off,none⟩ h0
 have hk':k=1∨k=2∨k=3∨k=4:=by omega
 clear hk
 simp only [QO4]
 rcases hk' with rfl | rfl | rfl | rfl
 ·cases e1:(oo==0) <;> cases e2:(on==0) <;> cases e3:(tw==0) <;> cases e4:(tn==0)
  all_goals
   go_enter Tryz.func175,Tryz.ntmps175
   go_wp2
   go_quiet (fail)
   go_wp2
   go_ret
   exact ⟨by simp [e1,e2,e3,e4],bdN (by go_grown) _⟩
 ·cases e1:(wh==0) <;> cases e2:(tw==0) <;> cases e3:(tn==0)
  all_goals
   go_enter Tryz.func175,Tryz.ntmps175
   go_wp2
   go_quiet (fail)
   go_wp2
   go_ret
   exact ⟨by simp [e1,e2,e3],bdN (by go_grown) _⟩
 ·cases e1:(wh==0) <;> cases e2:(tw==0)
  all_goals
   go_enter Tryz.func175,Tryz.ntmps175
   go_wp2
   go_ret
   exact ⟨by simp [e1,e2],by go_grown⟩
 ·cases e1:(wh==0)
  all_goals
   go_enter Tryz.func175,Tryz.ntmps175
   go_wp2
   go_ret
   exact ⟨by simp [e1],by go_grown⟩
theorem toRule_c (r:qA0) (w:World) :
  Calls Tryz.prog 91 #[.agg #[.int .i64 r.k,.int .i64 r.ho,.int .i64 r.hn,.int .i64 r.w,.int .i64 r.oo,.int .i64 r.on,.int .i64 r.to,.int .i64 r.tn]] w fun e w' =>
   e = .returned (.agg #[.int .i64 r.k,.int .i64 r.ho,.int .i64 r.hn,.int .i64 r.w,.int .i64 r.oo,.int .i64 r.on,.int .i64 r.to,.int .i64 r.tn])∧Below w.heap.size w w':=by
 obtain ⟨k,ho,hn,wh,oo,on,tw,tn⟩:=r
 simp only
 go_enter Tryz.func91,Tryz.ntmps91
 go_wp2
 go_returns
 exact ⟨rfl,by go_grown⟩

def QF8 (r s:qA0):Bool:=decide (r=s)
theorem sameB_mk (a0 a1 a2 a3 a4 a5 a6 a7 b0 b1 b2 b3 b4 b5 b6 b7:Int):QF8 ⟨a0,a1,a2,a3,a4,a5,a6,a7⟩ ⟨b0,b1,b2,b3,b4,b5,b6,b7⟩=(a0==b0&&(a1==b1&&a2==b2)&&a3==b3&&(a4==b4&&a5==b5)&&(a6==b6&&a7==b7)):=by
 unfold QF8
 rw [Bool.eq_iff_iff]
 simp only [decide_eq_true_eq,qA0.mk.injEq,Bool.and_eq_true,beq_iff_eq]
 constructor
 ·rintro ⟨h0,h1,h2,h3,h4,h5,h6,h7⟩;exact ⟨⟨⟨⟨h0,h1,h2⟩,h3⟩,h4,h5⟩,h6,h7⟩
 ·rintro ⟨⟨⟨⟨h0,h1,h2⟩,h3⟩,h4,h5⟩,h6,h7⟩;exact ⟨h0,h1,h2,h3,h4,h5,h6,h7⟩
theorem rule_eql (r s:qA0) (w:World):(binOp .eql 125 (.agg #[.int .i64 r.k,.int .i64 r.ho,.int .i64 r.hn,.int .i64 r.w,.int .i64 r.oo,.int .i64 r.on,.int .i64 r.to,.int .i64 r.tn]) (.agg #[.int .i64 s.k,.int .i64 s.ho,.int .i64 s.hn,.int .i64 s.w,.int .i64 s.oo,.int .i64 s.on,.int .i64 s.to,.int .i64 s.tn])).run Tryz.prog w = .ok (.bool (QF8 r s)) w:=by
 obtain ⟨a0,a1,a2,a3,a4,a5,a6,a7⟩:=r
 obtain ⟨b0,b1,b2,b3,b4,b5,b6,b7⟩:=s
 simp only
 rw [sameB_mk]
 cases e0:(a0==b0)
 ·simp [go_sem,e0]
 cases e1:(a1==b1)
 ·simp [go_sem,e0,e1]
 cases e2:(a2==b2)
 ·simp [go_sem,e0,e1,e2]
 cases e3:(a3==b3)
 ·simp [go_sem,e0,e1,e2,e3]
 cases e4:(a4==b4)
 ·simp [go_sem,e0,e1,e2,e3,e4]
 cases e5:(a5==b5)
 ·simp [go_sem,e0,e1,e2,e3,e4,e5]
 cases e6:(a6==b6)
 ·simp [go_sem,e0,e1,e2,e3,e4,e5,e6]
 cases e7:(a7==b7)
 ·simp [go_sem,e0,e1,e2,e3,e4,e5,e6,e7]
 ·simp [go_sem,e0,e1,e2,e3,e4,e5,e6,e7]

end Go.Proofs.YtdppdbihhlipeaaGreatDoor
