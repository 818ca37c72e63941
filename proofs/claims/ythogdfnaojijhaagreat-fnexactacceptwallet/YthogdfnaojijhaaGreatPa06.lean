/- Contracts. -/
import Derived.Test.YthogdfnaojijhaaGreatPa02
import Derived.WalkSmall
import Derived.Test.YthogdfnaojijhaaGreatPa05
namespace Go.Proofs.YthogdfnaojijhaaGreat
set_option maxRecDepth 100000
set_option maxHeartbeats 8000000
open Go.RowKit
set_option linter.unusedVariables false
set_option linter.unusedSimpArgs false

def qV3 (r s:qA0):Bool:=decide (r=s)
theorem sameB_mk (a0 a1 a2 a3 a4 a5 a6 a7 b0 b1 b2 b3 b4 b5 b6 b7:Int):qV3 ⟨a0,a1,a2,a3,a4,a5,a6,a7⟩ ⟨b0,b1,b2,b3,b4,b5,b6,b7⟩=(a0==b0&&(a1==b1&&a2==b2)&&a3==b3&&(a4==b4&&a5==b5)&&(a6==b6&&a7==b7)):=by
 unfold qV3
 rw [Bool.eq_iff_iff]
 simp only [decide_eq_true_eq,qA0.mk.injEq,Bool.and_eq_true,beq_iff_eq]
 constructor
 ·rintro ⟨h0,h1,h2,h3,h4,h5,h6,h7⟩;exact ⟨⟨⟨⟨h0,h1,h2⟩,h3⟩,h4,h5⟩,h6,h7⟩
 ·rintro ⟨⟨⟨⟨h0,h1,h2⟩,h3⟩,h4,h5⟩,h6,h7⟩;exact ⟨h0,h1,h2,h3,h4,h5,h6,h7⟩
theorem QU5 (r s:qA0) (w:World):(binOp .eql 149 (.agg #[.int .i64 r.k,.int .i64 r.ho,.int .i64 r.hn,.int .i64 r.w,.int .i64 r.oo,.int .i64 r.on,.int .i64 r.to,.int .i64 r.tn]) (.agg #[.int .i64 s.k,.int .i64 s.ho,.int .i64 s.hn,.int .i64 s.w,.int .i64 s.oo,.int .i64 s.on,.int .i64 s.to,.int .i64 s.tn])).run Tryz.prog w = .ok (.bool (qV3 r s)) w:=by
 obtain ⟨a0,a1,a2,a3,a4,a5,a6,a7⟩:=r
 obtain ⟨b0,b1,b2,b3,b4,b5,b6,b7⟩:=s
 simp only
 rw [sameB_mk]
 cases e0:(a0==b0)
 ·simp [go_sem,e0]
 cases e1:(a1==b1)
 ·simp [go_sem,e0,e1]
 cases e2:(a2==b2)
 ·simp [go_sem,e0,e1,e2]
 cases e3:(a3==b3)
 ·simp [go_sem,e0,e1,e2,e3]
 cases e4:(a4==b4)
 ·simp [go_sem,e0,e1,e2,e3,e4]
 cases e5:(a5==b5)
 ·simp [go_sem,e0,e1,e2,e3,e4,e5]
 cases e6:(a6==b6)
 ·simp [go_sem,e0,e1,e2,e3,e4,e5,e6]
 cases e7:(a7==b7)
 ·simp [go_sem,e0,e1,e2,e3,e4,e5,e6,e7]
 ·simp [go_sem,e0,e1,e2,e3,e4,e5,e6,e7]

def qJ9 (s:Int):Bool:=decide (0≤s)&&decide (s≤255)

end Go.Proofs.YthogdfnaojijhaaGreat
