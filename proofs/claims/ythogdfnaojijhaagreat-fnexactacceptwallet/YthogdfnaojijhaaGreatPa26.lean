/- Contracts. -/
import Derived.Test.YthogdfnaojijhaaGreatPa23
import Derived.Test.YthogdfnaojijhaaGreatPa10
import Derived.Deep.RegionWith
namespace Go.Proofs.YthogdfnaojijhaaGreat
set_option maxRecDepth 100000
set_option maxHeartbeats 8000000
open Go.RowKit
set_option linter.unusedVariables false
set_option linter.unusedSimpArgs false

section
open Go.RowKit Go.Maps
attribute [local go_sem] ta11 ta12 ta13 ta14 ta21 ta22 ta23 ta24 ta31 ta32 ta33 ta34 ta41 ta42 ta43 ta44
theorem look_gm (w:World) {ops:Array Oper} {rest:List Oper} {o:Oper} {a:Act} {Q:Exit→Act→World→Prop} (hg:o.guard=none) (m x:Operand) (hop:o.op=Op.lookup 232 m x false)
  (b:Nat) (f:RoI→Int) (r:RoI) (hm:a.eval m = .map (some b)) (hx:a.eval x = .agg #[.int .i64 r.1,.int .i64 r.2]) {w1:World} (hG:GM w1 b f) (hB:Below w1.heap.size w1 w) (hr:roW r)
  (hK:wpList Tryz.prog ops Q rest (a.put o.dst (.int .u8 (f r))) w):wpList Tryz.prog ops Q (o::rest) a w:=by
 refine wpList_plain hg fun K' hK'=>?_
 have hrun:=qS5 (hG.below hG.lt hB) hr
 unfold Oper.wp
 simp only [roV] at hrun
 simp [execOp,hop,hm,hx,hrun,Result.andThen]
 exact hK' _ _ hK
theorem QX0 {w w1:World} {o:Obj} (h:Below (w.alloc o).heap.size (w.alloc o) w1):Below w.heap.size w w1:=(zN).trans (h.mono (by simp))
theorem qO3 {r:qA0} (h:qA2 r=0):1≤r.k∧r.k≤4∧qB4 r.ho r.hn=true∧qU5 r=true:=by
 unfold qA2 at h
 split at h
 ·cases h
 ·rename_i h1
  split at h
  ·cases h
  ·rename_i h2
   split at h
   ·cases h
   ·split at h
    ·cases h
    ·rename_i h4
     exact ⟨by omega,by omega,by simpa using h2,by simpa using h4⟩
theorem told_1 (b:Nat) (f:RoI→Int) (r:qA0) (w:World) (h:GM w b f) (hc:qA2 r=0) (e1:r.k=1) :
  Calls Tryz.prog 181 #[.map (some b),.agg #[.int .i64 r.k,.int .i64 r.ho,.int .i64 r.hn,.int .i64 r.w,.int .i64 r.oo,.int .i64 r.on,.int .i64 r.to,.int .i64 r.tn]] w fun e w'=>e = .returned (.int .u8 (byF f r))∧Below w.heap.size w w':=by
 have hh:=(qO3 hc).2.2.2
 have hp:1≤r.w∧r.w≤8:=by simpa [qU5,e1,qM6] using hh
 have eb:byF f r=bitI r.w:=by simp [byF,e1]
 rw [eb]
 have E1:Hid _:=e1
 clear hh eb hc e1
 go_enter Tryz.func181,Tryz.ntmps181
 go_wp2_with (first | (go_at_call 191;refine (QI5 r E1.out _).mono ?_;rintro e w1 ⟨rfl,hb0⟩;have hb:=QX0 hb0;clear hb0) | (go_at_call 184;refine (QI6 r.w hp.1 hp.2 _).mono ?_;rintro e w2 ⟨rfl,rfl⟩) | go_in)
 go_ret
 exact ⟨rfl,hb.alloc hb.size _⟩
theorem told_2 (b:Nat) (f:RoI→Int) (r:qA0) (w:World) (h:GM w b f) (hc:qA2 r=0) (e1:r.k=2) :
  Calls Tryz.prog 181 #[.map (some b),.agg #[.int .i64 r.k,.int .i64 r.ho,.int .i64 r.hn,.int .i64 r.w,.int .i64 r.oo,.int .i64 r.on,.int .i64 r.to,.int .i64 r.tn]] w fun e w'=>e = .returned (.int .u8 (byF f r))∧Below w.heap.size w w':=by
 have hh:=(qO3 hc).2.2.2
 have hp:qB4 r.oo r.on=true:=by simpa [qU5,e1] using hh
 have eb:byF f r=f (r.oo,r.on):=by simp [byF,e1]
 rw [eb]
 have E1:Hid _:=e1
 clear hh eb hc e1
 go_enter Tryz.func181,Tryz.ntmps181
 go_wp2_with (first | (go_at_call 191;refine (QI4 r E1.out _).mono ?_;rintro e w1 ⟨rfl,hb0⟩;have hb:=QX0 hb0;clear hb0) | (at_lookup;refine look_gm _ rfl _ _ rfl b f (r.oo,r.on) rfl rfl h (hb.alloc hb.size _) (qY7 hp) ?_) | go_in)
 go_ret
 exact ⟨rfl,hb.alloc hb.size _⟩
theorem told_3 (b:Nat) (f:RoI→Int) (r:qA0) (w:World) (h:GM w b f) (hc:qA2 r=0) (e1:r.k=3) :
  Calls Tryz.prog 181 #[.map (some b),.agg #[.int .i64 r.k,.int .i64 r.ho,.int .i64 r.hn,.int .i64 r.w,.int .i64 r.oo,.int .i64 r.on,.int .i64 r.to,.int .i64 r.tn]] w fun e w'=>e = .returned (.int .u8 (byF f r))∧Below w.heap.size w w':=by
 have hh:=(qO3 hc).2.2.2
 have hp:qB4 r.oo r.on=true∧1≤r.tn∧r.tn≤5:=by simpa [qU5,e1,qN3] using hh
 have eb:byF f r=qF8 f r.tn (qA6 (f (r.oo,r.on)) 8) (qA6 (f (r.oo,r.on)) 8).length:=by simp [byF,e1]
 rw [eb]
 have E1:Hid _:=e1
 clear hh eb hc e1
 go_enter Tryz.func181,Tryz.ntmps181
 go_wp2_with (first | (go_at_call 191;refine (qX8 r E1.out _).mono ?_;rintro e w1 ⟨rfl,hb0⟩;have hb:=QX0 hb0;clear hb0) | go_in)
 have hB1:=hb.alloc hb.size (.cells #[.int .i64 r.oo,.int .i64 r.on,.int .i64 r.tn] 275)
 have hG1:=h.below h.lt hB1
 have hl:=qS5 (w:=(w1.alloc (.cells #[.int .i64 r.oo,.int .i64 r.on,.int .i64 r.tn] 275)).drew) (qJ5 hG1 rfl) (qY7 (r:=(r.oo,r.on)) hp.1)
 simp only [roV] at hl
 have HG:Hid (GM (w1.alloc (.cells #[.int .i64 r.oo,.int .i64 r.on,.int .i64 r.tn] 275)).drew b f):=qJ5 hG1 rfl
 have HB:Hid (Below w.heap.size w (w1.alloc (.cells #[.int .i64 r.oo,.int .i64 r.on,.int .i64 r.tn] 275)).drew):=hB1.drew
 have HS:Hid (qF4 (f (r.oo,r.on))):=h.fn.st _
 clear hB1 hG1 h hb
 go_region_with (first | (go_at_call 197;refine (linked_c b f (f (r.oo,r.on)) r.tn _ HG.out HS.out hp.2.1 hp.2.2).mono ?_;rintro e w2 ⟨rfl,hb2⟩))
 all_goals go_wp2
 all_goals go_ret
 all_goals exact ⟨rfl,HB.out.trans (hb2.mono HB.out.size)⟩
theorem told_4 (b:Nat) (f:RoI→Int) (r:qA0) (w:World) (h:GM w b f) (hc:qA2 r=0) (e1:r.k=4) :
  Calls Tryz.prog 181 #[.map (some b),.agg #[.int .i64 r.k,.int .i64 r.ho,.int .i64 r.hn,.int .i64 r.w,.int .i64 r.oo,.int .i64 r.on,.int .i64 r.to,.int .i64 r.tn]] w fun e w'=>e = .returned (.int .u8 (byF f r))∧Below w.heap.size w w':=by
 have hh:=(qO3 hc).2.2.2
 have hp:qB4 r.oo r.on=true∧qB4 r.to r.tn=true:=by simpa [qU5,e1] using hh
 have eb:byF f r=bits .and .u8 (f (r.oo,r.on)) (f (r.to,r.tn)):=by simp [byF,e1,u8_and _ _ (h.fn.st _) (h.fn.st _)]
 rw [eb]
 have E1:Hid _:=e1
 clear hh eb hc e1
 go_enter Tryz.func181,Tryz.ntmps181
 go_wp2_with (first | (go_at_call 191;refine (QI3 r E1.out _).mono ?_;rintro e w1 ⟨rfl,hb0⟩;have hb:=QX0 hb0;clear hb0) | go_in)
 have hB1:=hb.alloc hb.size (.cells #[.int .i64 r.oo,.int .i64 r.on,.int .i64 r.to,.int .i64 r.tn] 278)
 have hG1:=h.below h.lt hB1
 have hl1:=fun m=>qS5 (w:=(w1.alloc (.cells #[.int .i64 r.oo,.int .i64 r.on,.int .i64 r.to,.int .i64 r.tn] 278)).drewN m) (qJ5 hG1 rfl) (qY7 (r:=(r.oo,r.on)) hp.1)
 have hl2:=fun m=>qS5 (w:=(w1.alloc (.cells #[.int .i64 r.oo,.int .i64 r.on,.int .i64 r.to,.int .i64 r.tn] 278)).drewN m) (qJ5 hG1 rfl) (qY7 (r:=(r.to,r.tn)) hp.2)
 simp only [roV] at hl1 hl2
 have HB:Hid (Below w.heap.size w (w1.alloc (.cells #[.int .i64 r.oo,.int .i64 r.on,.int .i64 r.to,.int .i64 r.tn] 278))):=hB1
 clear hB1 hG1 h hb
 go_quiet (fail)
 go_wp2
 go_ret
 exact ⟨rfl,bdN HB.out _⟩
end

end Go.Proofs.YthogdfnaojijhaaGreat
