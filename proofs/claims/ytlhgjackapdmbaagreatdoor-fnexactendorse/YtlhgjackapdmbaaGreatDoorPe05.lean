/- Contracts. -/
import Derived.Test.YtlhgjackapdmbaaGreatDoorPe01
import Derived.ProofKit
import Derived.Outline
import Derived.Handy
import Derived.Laws.StructEq
import Derived.BigQuiet
import Derived.Deep.QuietTactic
namespace Go.Proofs.YtlhgjackapdmbaaGreatDoor
set_option maxRecDepth 100000
set_option maxHeartbeats 8000000
open Go.RowKit
set_option linter.unusedVariables false
set_option linter.unusedSimpArgs false

theorem qD5 {w w1:World} {o:Obj} (h:Below (w.alloc o).heap.size (w.alloc o) w1):Below w.heap.size w w1:=(zN).trans (h.mono (by simp))
theorem QE2 (p:Int) (w:World) :
  Calls Tryz.prog 169 #[.int .i64 p] w fun e w'=>e = .returned (.bool (qU5 p))∧w=w':=by
 unfold qU5
 go_each [1≤p,p≤8]=>(go_enter Tryz.func169,Tryz.ntmps169;go_wp2;go_ret;exact ⟨by simp [*],rfl⟩)
theorem l2Name_c (p:Int) (w:World) :
  Calls Tryz.prog 170 #[.int .i64 p] w fun e w'=>e = .returned (.bool (qV6 p))∧w=w':=by
 unfold qV6
 go_each [1≤p,p≤5]=>(go_enter Tryz.func170,Tryz.ntmps170;go_wp2;go_ret;exact ⟨by simp [*],rfl⟩)
theorem isPrin_c (p:Int) (w:World) :
  Calls Tryz.prog 180 #[.int .i64 p] w fun e w'=>e = .returned (.bool (qU5 p))∧w=w':=by
 unfold qU5
 go_each [1≤p,p≤8]=>(go_enter Tryz.func180,Tryz.ntmps180;go_wp2;go_ret;exact ⟨by simp [*],rfl⟩)
theorem isName_c (p:Int) (w:World) :
  Calls Tryz.prog 208 #[.int .i64 p] w fun e w'=>e = .returned (.bool (qV6 p))∧w=w':=by
 unfold qV6
 go_each [1≤p,p≤5]=>(go_enter Tryz.func208,Tryz.ntmps208;go_wp2;go_ret;exact ⟨by simp [*],rfl⟩)
theorem qR0 (o n:Int) (w:World) :
  Calls Tryz.prog 144 #[.agg #[.int .i64 o,.int .i64 n]] w fun e w'=>e = .returned (.bool (qD3 o n))∧Below w.heap.size w w':=by
 unfold qD3
 cases hp:qU5 o <;> cases hn:qV6 n
 all_goals
  go_enter Tryz.func144,Tryz.ntmps144
  go_wp2_with (first | (go_at_call 169;refine (QE2 o _).mono ?_;rintro e w' ⟨rfl,rfl⟩;rw [hp]) | (go_at_call 170;refine (l2Name_c n _).mono ?_;rintro e w' ⟨rfl,rfl⟩;rw [hn]))
  go_ret
  exact ⟨rfl,by go_grown⟩
theorem qC9 (o n:Int) (w:World) :
  Calls Tryz.prog 192 #[.agg #[.int .i64 o,.int .i64 n]] w fun e w'=>e = .returned (.int .i64 (qF0 o n))∧Below w.heap.size w w':=by
 unfold qF0 qD3
 cases hp:qU5 o <;> cases hn:qV6 n
 all_goals
  go_enter Tryz.func192,Tryz.ntmps192
  go_wp2_with (first | (go_at_call 180;refine (isPrin_c o _).mono ?_;rintro e w' ⟨rfl,rfl⟩;rw [hp]) | (go_at_call 208;refine (isName_c n _).mono ?_;rintro e w' ⟨rfl,rfl⟩;rw [hn]))
  go_ret
  exact ⟨rfl,by go_grown⟩

theorem bdN {B:Nat} {a w:World} (h:Below B a w) (n:Nat):Below B a (w.drewN n):=h.trans ⟨rfl,rfl,rfl,Nat.le_refl _,fun _ _=>rfl⟩
theorem l2Bare_c (g off:Nat) (r:qA1) (w:World) (h:qC6 w g off r) (hk:1≤r.k∧r.k≤4) :
  Calls Tryz.prog 168 #[.pointer (some ⟨g,off,none⟩)] w fun e w'=>e = .returned (.bool (QN8 r))∧Below w.heap.size w w':=by
 obtain ⟨k,ho,hn,wh,oo,on,tw,tn⟩:=r
 obtain ⟨h0,h1,h2,h3,h4,h5,h6,h7⟩:=h
 simp only at h0 h1 h2 h3 h4 h5 h6 h7 hk
 have hg:g < w.heap.size:=zL w ⟨g,off,none⟩ h0
 have hk':k=1∨k=2∨k=3∨k=4:=by omega
 clear hk
 simp only [QN8]
 rcases hk' with rfl | rfl | rfl | rfl
 ·cases e1:(oo==0) <;> cases e2:(on==0) <;> cases e3:(tw==0) <;> cases e4:(tn==0)
  all_goals
   go_enter Tryz.func168,Tryz.ntmps168
   go_wp2
   go_quiet (fail)
   go_wp2
   go_ret
   exact ⟨by simp [e1,e2,e3,e4],bdN (by go_grown) _⟩
 ·cases e1:(wh==0) <;> cases e2:(tw==0) <;> cases e3:(tn==0)
  all_goals
   go_enter Tryz.func168,Tryz.ntmps168
   go_wp2
   go_quiet (fail)
   go_wp2
   go_ret
   exact ⟨by simp [e1,e2,e3],bdN (by go_grown) _⟩
 ·cases e1:(wh==0) <;> cases e2:(tw==0)
  all_goals
   go_enter Tryz.func168,Tryz.ntmps168
   go_wp2
   go_ret
   exact ⟨by simp [e1,e2],by go_grown⟩
 ·cases e1:(wh==0)
  all_goals
   go_enter Tryz.func168,Tryz.ntmps168
   go_wp2
   go_ret
   exact ⟨by simp [e1],by go_grown⟩
theorem toRule_c (r:qA1) (w:World) :
  Calls Tryz.prog 88 #[.agg #[.int .i64 r.k,.int .i64 r.ho,.int .i64 r.hn,.int .i64 r.w,.int .i64 r.oo,.int .i64 r.on,.int .i64 r.to,.int .i64 r.tn]] w fun e w' =>
   e = .returned (.agg #[.int .i64 r.k,.int .i64 r.ho,.int .i64 r.hn,.int .i64 r.w,.int .i64 r.oo,.int .i64 r.on,.int .i64 r.to,.int .i64 r.tn])∧Below w.heap.size w w':=by
 obtain ⟨k,ho,hn,wh,oo,on,tw,tn⟩:=r
 simp only
 go_enter Tryz.func88,Tryz.ntmps88
 go_wp2
 go_returns
 exact ⟨rfl,by go_grown⟩

end Go.Proofs.YtlhgjackapdmbaaGreatDoor
