/- Contracts. -/
import Derived.Test.YtlhgjackapdmbaaGreatDoorPq01
import Derived.BigQuiet
import Derived.Deep.QuietTactic
namespace Go.Proofs.YtlhgjackapdmbaaGreatDoor
set_option maxRecDepth 100000
set_option maxHeartbeats 8000000
open Go.RowKit
set_option linter.unusedVariables false
set_option linter.unusedSimpArgs false

theorem bdN {B:Nat} {a w:World} (h:Below B a w) (n:Nat):Below B a (w.drewN n):=h.trans ⟨rfl,rfl,rfl,Nat.le_refl _,fun _ _=>rfl⟩
theorem l2Bare_c (g off:Nat) (r:qA0) (w:World) (h:qC3 w g off r) (hk:1≤r.k∧r.k≤4) :
  Calls Tryz.prog 168 #[.pointer (some ⟨g,off,none⟩)] w fun e w'=>e = .returned (.bool (QL9 r))∧Below w.heap.size w w':=by
 obtain ⟨k,ho,hn,wh,oo,on,tw,tn⟩:=r
 obtain ⟨h0,h1,h2,h3,h4,h5,h6,h7⟩:=h
 simp only at h0 h1 h2 h3 h4 h5 h6 h7 hk
 have hg:g < w.heap.size:=zL w ⟨g,off,none⟩ h0
 have hk':k=1∨k=2∨k=3∨k=4:=by omega
 clear hk
 simp only [QL9]
 rcases hk' with rfl | rfl | rfl | rfl
 ·cases e1:(oo==0) <;> cases e2:(on==0) <;> cases e3:(tw==0) <;> cases e4:(tn==0)
  all_goals
   go_enter Tryz.func168,Tryz.ntmps168
   go_wp2
   go_quiet (fail)
   go_wp2
   go_ret
   exact ⟨by simp [e1,e2,e3,e4],bdN (by go_grown) _⟩
 ·cases e1:(wh==0) <;> cases e2:(tw==0) <;> cases e3:(tn==0)
  all_goals
   go_enter Tryz.func168,Tryz.ntmps168
   go_wp2
   go_quiet (fail)
   go_wp2
   go_ret
   exact ⟨by simp [e1,e2,e3],bdN (by go_grown) _⟩
 ·cases e1:(wh==0) <;> cases e2:(tw==0)
  all_goals
   go_enter Tryz.func168,Tryz.ntmps168
   go_wp2
   go_ret
   exact ⟨by simp [e1,e2],by go_grown⟩
 ·cases e1:(wh==0)
  all_goals
   go_enter Tryz.func168,Tryz.ntmps168
   go_wp2
   go_ret
   exact ⟨by simp [e1],by go_grown⟩
theorem toRule_c (r:qA0) (w:World) :
  Calls Tryz.prog 88 #[.agg #[.int .i64 r.k,.int .i64 r.ho,.int .i64 r.hn,.int .i64 r.w,.int .i64 r.oo,.int .i64 r.on,.int .i64 r.to,.int .i64 r.tn]] w fun e w' =>
   e = .returned (.agg #[.int .i64 r.k,.int .i64 r.ho,.int .i64 r.hn,.int .i64 r.w,.int .i64 r.oo,.int .i64 r.on,.int .i64 r.to,.int .i64 r.tn])∧Below w.heap.size w w':=by
 obtain ⟨k,ho,hn,wh,oo,on,tw,tn⟩:=r
 simp only
 go_enter Tryz.func88,Tryz.ntmps88
 go_wp2
 go_returns
 exact ⟨rfl,by go_grown⟩

end Go.Proofs.YtlhgjackapdmbaaGreatDoor
