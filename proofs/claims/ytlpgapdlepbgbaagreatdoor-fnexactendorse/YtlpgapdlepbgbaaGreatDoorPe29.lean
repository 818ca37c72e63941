/- Contracts. -/
import Derived.Test.YtlpgapdlepbgbaaGreatDoorPe26
import Derived.Test.YtlpgapdlepbgbaaGreatDoorPe16
import Derived.Deep.RegionWith
import Derived.Scope
import Derived.ScopeJumps
import Derived.WalkMore
import Derived.Shelf.SlMaps.Clone
namespace Go.Proofs.YtlpgapdlepbgbaaGreatDoor
set_option maxRecDepth 100000
set_option maxHeartbeats 8000000
open Go.RowKit
set_option linter.unusedVariables false
set_option linter.unusedSimpArgs false

section
open Go.RowKit Go.Maps
attribute [local go_sem] ta11 ta12 ta13 ta14 ta21 ta22 ta23 ta24 ta31 ta32 ta33 ta34 ta41 ta42 ta43 ta44
theorem look_gm (w:World) {ops:Array Oper} {rest:List Oper} {o:Oper} {a:Act} {Q:Exit→Act→World→Prop} (hg:o.guard=none) (m x:Operand) (hop:o.op=Op.lookup 239 m x false)
  (b:Nat) (f:RoI→Int) (r:RoI) (hm:a.eval m = .map (some b)) (hx:a.eval x = .agg #[.int .i64 r.1,.int .i64 r.2]) {w1:World} (hG:GM w1 b f) (hB:Below w1.heap.size w1 w) (hr:roW r)
  (hK:wpList Tryz.prog ops Q rest (a.put o.dst (.int .u8 (f r))) w):wpList Tryz.prog ops Q (o::rest) a w:=by
 refine wpList_plain hg fun K' hK'=>?_
 have hrun:=QC5 (hG.below hG.lt hB) hr
 unfold Oper.wp
 simp only [roV] at hrun
 simp [execOp,hop,hm,hx,hrun,Result.andThen]
 exact hK' _ _ hK
theorem bn_new {w w1:World} {o:Obj} (h:Below (w.alloc o).heap.size (w.alloc o) w1):Below w.heap.size w w1:=(zN).trans (h.mono (by simp))
theorem qW6 {r:qA1} (h:qA8 r=0):1≤r.k∧r.k≤4∧qD3 r.ho r.hn=true∧QE4 r=true:=by
 unfold qA8 at h
 split at h
 ·cases h
 ·rename_i h1
  split at h
  ·cases h
  ·rename_i h2
   split at h
   ·cases h
   ·split at h
    ·cases h
    ·rename_i h4
     exact ⟨by omega,by omega,by simpa using h2,by simpa using h4⟩
theorem told_1 (b:Nat) (f:RoI→Int) (r:qA1) (w:World) (h:GM w b f) (hc:qA8 r=0) (e1:r.k=1) :
  Calls Tryz.prog 200 #[.map (some b),.agg #[.int .i64 r.k,.int .i64 r.ho,.int .i64 r.hn,.int .i64 r.w,.int .i64 r.oo,.int .i64 r.on,.int .i64 r.to,.int .i64 r.tn]] w fun e w'=>e = .returned (.int .u8 (byF f r))∧Below w.heap.size w w':=by
 have hh:=(qW6 hc).2.2.2
 have hp:1≤r.w∧r.w≤8:=by simpa [QE4,e1,qU5] using hh
 have eb:byF f r=bitI r.w:=by simp [byF,e1]
 rw [eb]
 have E1:Hid _:=e1
 clear hh eb hc e1
 go_enter Tryz.func200,Tryz.ntmps200
 go_wp2_with (first | (go_at_call 190;refine (QW4 r E1.out _).mono ?_;rintro e w1 ⟨rfl,hb0⟩;have hb:=bn_new hb0;clear hb0) | (go_at_call 183;refine (QW5 r.w hp.1 hp.2 _).mono ?_;rintro e w2 ⟨rfl,rfl⟩) | go_in)
 go_ret
 exact ⟨rfl,hb.alloc hb.size _⟩
theorem told_2 (b:Nat) (f:RoI→Int) (r:qA1) (w:World) (h:GM w b f) (hc:qA8 r=0) (e1:r.k=2) :
  Calls Tryz.prog 200 #[.map (some b),.agg #[.int .i64 r.k,.int .i64 r.ho,.int .i64 r.hn,.int .i64 r.w,.int .i64 r.oo,.int .i64 r.on,.int .i64 r.to,.int .i64 r.tn]] w fun e w'=>e = .returned (.int .u8 (byF f r))∧Below w.heap.size w w':=by
 have hh:=(qW6 hc).2.2.2
 have hp:qD3 r.oo r.on=true:=by simpa [QE4,e1] using hh
 have eb:byF f r=f (r.oo,r.on):=by simp [byF,e1]
 rw [eb]
 have E1:Hid _:=e1
 clear hh eb hc e1
 go_enter Tryz.func200,Tryz.ntmps200
 go_wp2_with (first | (go_at_call 190;refine (QW3 r E1.out _).mono ?_;rintro e w1 ⟨rfl,hb0⟩;have hb:=bn_new hb0;clear hb0) | (at_lookup;refine look_gm _ rfl _ _ rfl b f (r.oo,r.on) rfl rfl h (hb.alloc hb.size _) (QK0 hp) ?_) | go_in)
 go_ret
 exact ⟨rfl,hb.alloc hb.size _⟩
theorem told_3 (b:Nat) (f:RoI→Int) (r:qA1) (w:World) (h:GM w b f) (hc:qA8 r=0) (e1:r.k=3) :
  Calls Tryz.prog 200 #[.map (some b),.agg #[.int .i64 r.k,.int .i64 r.ho,.int .i64 r.hn,.int .i64 r.w,.int .i64 r.oo,.int .i64 r.on,.int .i64 r.to,.int .i64 r.tn]] w fun e w'=>e = .returned (.int .u8 (byF f r))∧Below w.heap.size w w':=by
 have hh:=(qW6 hc).2.2.2
 have hp:qD3 r.oo r.on=true∧1≤r.tn∧r.tn≤5:=by simpa [QE4,e1,qV6] using hh
 have eb:byF f r=qL8 f r.tn (qB2 (f (r.oo,r.on)) 8) (qB2 (f (r.oo,r.on)) 8).length:=by simp [byF,e1]
 rw [eb]
 have E1:Hid _:=e1
 clear hh eb hc e1
 go_enter Tryz.func200,Tryz.ntmps200
 go_wp2_with (first | (go_at_call 190;refine (QI8 r E1.out _).mono ?_;rintro e w1 ⟨rfl,hb0⟩;have hb:=bn_new hb0;clear hb0) | go_in)
 have hB1:=hb.alloc hb.size (.cells #[.int .i64 r.oo,.int .i64 r.on,.int .i64 r.tn] 295)
 have hG1:=h.below h.lt hB1
 have hl:=QC5 (w:=(w1.alloc (.cells #[.int .i64 r.oo,.int .i64 r.on,.int .i64 r.tn] 295)).drew) (qQ2 hG1 rfl) (QK0 (r:=(r.oo,r.on)) hp.1)
 simp only [roV] at hl
 have HG:Hid (GM (w1.alloc (.cells #[.int .i64 r.oo,.int .i64 r.on,.int .i64 r.tn] 295)).drew b f):=qQ2 hG1 rfl
 have HB:Hid (Below w.heap.size w (w1.alloc (.cells #[.int .i64 r.oo,.int .i64 r.on,.int .i64 r.tn] 295)).drew):=hB1.drew
 have HS:Hid (qL2 (f (r.oo,r.on))):=h.fn.st _
 clear hB1 hG1 h hb
 go_region_with (first | (go_at_call 210;refine (linked_c b f (f (r.oo,r.on)) r.tn _ HG.out HS.out hp.2.1 hp.2.2).mono ?_;rintro e w2 ⟨rfl,hb2⟩))
 all_goals go_wp2
 all_goals go_ret
 all_goals exact ⟨rfl,HB.out.trans (hb2.mono HB.out.size)⟩
theorem told_4 (b:Nat) (f:RoI→Int) (r:qA1) (w:World) (h:GM w b f) (hc:qA8 r=0) (e1:r.k=4) :
  Calls Tryz.prog 200 #[.map (some b),.agg #[.int .i64 r.k,.int .i64 r.ho,.int .i64 r.hn,.int .i64 r.w,.int .i64 r.oo,.int .i64 r.on,.int .i64 r.to,.int .i64 r.tn]] w fun e w'=>e = .returned (.int .u8 (byF f r))∧Below w.heap.size w w':=by
 have hh:=(qW6 hc).2.2.2
 have hp:qD3 r.oo r.on=true∧qD3 r.to r.tn=true:=by simpa [QE4,e1] using hh
 have eb:byF f r=bits .and .u8 (f (r.oo,r.on)) (f (r.to,r.tn)):=by simp [byF,e1,u8_and _ _ (h.fn.st _) (h.fn.st _)]
 rw [eb]
 have E1:Hid _:=e1
 clear hh eb hc e1
 go_enter Tryz.func200,Tryz.ntmps200
 go_wp2_with (first | (go_at_call 190;refine (QW2 r E1.out _).mono ?_;rintro e w1 ⟨rfl,hb0⟩;have hb:=bn_new hb0;clear hb0) | go_in)
 have hB1:=hb.alloc hb.size (.cells #[.int .i64 r.oo,.int .i64 r.on,.int .i64 r.to,.int .i64 r.tn] 297)
 have hG1:=h.below h.lt hB1
 have hl1:=fun m=>QC5 (w:=(w1.alloc (.cells #[.int .i64 r.oo,.int .i64 r.on,.int .i64 r.to,.int .i64 r.tn] 297)).drewN m) (qQ2 hG1 rfl) (QK0 (r:=(r.oo,r.on)) hp.1)
 have hl2:=fun m=>QC5 (w:=(w1.alloc (.cells #[.int .i64 r.oo,.int .i64 r.on,.int .i64 r.to,.int .i64 r.tn] 297)).drewN m) (qQ2 hG1 rfl) (QK0 (r:=(r.to,r.tn)) hp.2)
 simp only [roV] at hl1 hl2
 have HB:Hid (Below w.heap.size w (w1.alloc (.cells #[.int .i64 r.oo,.int .i64 r.on,.int .i64 r.to,.int .i64 r.tn] 297))):=hB1
 clear hB1 hG1 h hb
 go_quiet (fail)
 go_wp2
 go_ret
 exact ⟨rfl,bdN HB.out _⟩
end

section
open Go
def qU6 (J:Nat→Act→World→Prop) (Q:Exit→Act→World→Prop):Exit→Act→World→Prop
 | .goto l,a,w=>J l a w
 | e,a,w=>Q e a w
theorem wp_weaken {P:Program} {c:Code} {Q Q':Exit→Act→World→Prop} {a:Act} {w:World} (h:c.wp P Q a w) (hq:∀ e a w,Q e a w→Q' e a w):c.wp P Q' a w:=by
 intro b k cs
 obtain ⟨e,a',w',h1,h2⟩:=h b k cs
 exact ⟨e,a',w',hq e a' w' h1,h2⟩
theorem QJ1 {P:Program} {c:Code} {Q:Exit→Act→World→Prop} {a:Act} {w:World} (rest:Nat→Code) (J:Nat→Nat→Act→World→Prop) (hf:∀ l m a w,J l m a w→findLabel c l=some (rest l))
  (first:c.wp P (qU6 (fun l a' w'=>∃ m,J l m a' w') Q) a w)
  (pass:∀ l m a w,J l m a w→(rest l).wp P (qU6 (fun l' a' w'=>∃ m',m' < m∧J l' m' a' w') Q) a w):(Code.scope c).wp P Q a w:=by
 intro b k cs
 have again:∀ m l a w,J l m a w→∃ e a' w',Q e a' w'∧Arrives P (lone (b.at a (.code (rest l) :: .inScope c::k)) cs w) b k cs e a' w':=by
  intro m
  induction m using Nat.strongRecOn with
  | _ m ih =>
   intro l a w hJ
   obtain ⟨e,a1,w1,hq,har⟩:=pass l m a w hJ b (.inScope c::k) cs
   cases e with
   | goto l' =>
    obtain ⟨m',hlt,hJ'⟩:=hq
    obtain ⟨e2,a2,w2,hq2,har2⟩:=ih m' hlt l' a1 w1 hJ'
    have hg:gotoIn l' (.inScope c::k)=some (.code (rest l') :: .inScope c::k):=by simp [gotoIn,hf l' m' a1 w1 hJ']
    exact ⟨e2,a2,w2,hq2,.of_steps (har _ hg) har2⟩
   | normal=>exact ⟨.normal,a1,w1,hq,Steps.trans har (.one step_inScope)⟩
   | exit id=>exact ⟨.exit id,a1,w1,hq,fun k' hk=>har k' (by simp [exitTo,hk])⟩
   | ret=>exact ⟨_,a1,w1,hq,har⟩
   | panic ch=>exact ⟨_,a1,w1,hq,har⟩
   | outgrown=>exact ⟨_,a1,w1,hq,har⟩
 obtain ⟨e,a1,w1,hq,har⟩:=first b (.inScope c::k) cs
 cases e with
 | goto l =>
  obtain ⟨m,hJ⟩:=hq
  obtain ⟨e2,a2,w2,hq2,har2⟩:=again m l a1 w1 hJ
  have hg:gotoIn l (.inScope c::k)=some (.code (rest l) :: .inScope c::k):=by simp [gotoIn,hf l m a1 w1 hJ]
  exact ⟨e2,a2,w2,hq2,.of_steps (.head step_scope (har _ hg)) har2⟩
 | normal=>exact ⟨.normal,a1,w1,hq,.head step_scope (Steps.trans har (.one step_inScope))⟩
 | exit id=>exact ⟨.exit id,a1,w1,hq,fun k' hk => .head step_scope (har k' (by simp [exitTo,hk]))⟩
 | ret=>exact ⟨_,a1,w1,hq,.of_steps (.one step_scope) har⟩
 | panic ch=>exact ⟨_,a1,w1,hq,.of_steps (.one step_scope) har⟩
 | outgrown=>exact ⟨_,a1,w1,hq,.of_steps (.one step_scope) har⟩
theorem jumps_weaken {J:Nat→Act→World→Prop} {J':Nat→Act→World→Prop} {Q:Exit→Act→World→Prop} (h:∀ l a w,J l a w→J' l a w):∀ e a w,qU6 J Q e a w→qU6 J' Q e a w
 | .goto l,a,w,q=>h l a w q
 | .normal,_,_,q=>q
 | .exit _,_,_,q=>q
 | .ret,_,_,q=>q
 | .panic _,_,_,q=>q
 | .outgrown,_,_,q=>q
def two (x y:Code):Nat→Code
 | 0=>x
 | _=>y
theorem QX3 {P:Program} {c r0 r1:Code} {Q:Exit→Act→World→Prop} {a:Act} {w:World} (J:Nat→Nat→Act→World→Prop) (hf0:findLabel c 0=some (Code.seq .skip r0)) (hf1:findLabel c 1=some (Code.seq .skip r1)) (hJ:∀ l m a w,J l m a w→l=0∨l=1)
  (first:(∀ m a w,J 0 m a w→r0.wp P (qU6 (fun l' a' w'=>∃ m',m' < m∧J l' m' a' w') Q) a w)→c.wp P (qU6 (fun l a' w'=>∃ m,J l m a' w') Q) a w)
  (core0:∀ m a w,J 0 m a w→r0.wp P (qU6 (fun l' a' w'=>∃ m',m' < m∧J l' m' a' w') Q) a w)
  (core1:∀ m a w,J 1 m a w→r1.wp P (qU6 (fun l' a' w'=>∃ m',m' < m∧J l' m' a' w') Q) a w):(Code.scope c).wp P Q a w:=by
 refine QJ1 (two (Code.seq .skip r0) (Code.seq .skip r1)) J ?_ (first core0) ?_
 ·intro l m a w h
  rcases hJ l m a w h with rfl | rfl
  ·exact hf0
  ·exact hf1
 ·intro l m a w h
  rcases hJ l m a w h with rfl | rfl
  ·exact wp_seq (wp_skip (core0 m a w h))
  ·exact wp_seq (wp_skip (core1 m a w h))
end

section
open Go.RowKit Go.Maps Go.Proofs
theorem told_c (b:Nat) (f:RoI→Int) (r:qA1) (w:World) (h:GM w b f) (hc:qA8 r=0) :
  Calls Tryz.prog 200 #[.map (some b),.agg #[.int .i64 r.k,.int .i64 r.ho,.int .i64 r.hn,.int .i64 r.w,.int .i64 r.oo,.int .i64 r.on,.int .i64 r.to,.int .i64 r.tn]] w fun e w'=>e = .returned (.int .u8 (byF f r))∧Below w.heap.size w w':=by
 have hk:=qW6 hc
 have h4:r.k=1∨r.k=2∨r.k=3∨r.k=4:=by omega
 rcases h4 with e | e | e | e
 ·exact told_1 b f r w h hc e
 ·exact told_2 b f r w h hc e
 ·exact told_3 b f r w h hc e
 ·exact told_4 b f r w h hc e
theorem Below.turn {B:Nat} {w w1 w2:World} {b:Nat} (h:Below B w w1) (hB:B≤w1.heap.size) (hb:B≤b) (hg:w1.grownBy w2 (some b)):Below B w w2:=h.grown hg hB (fun k e=>by cases e;exact hb)
end

end Go.Proofs.YtlpgapdlepbgbaaGreatDoor
