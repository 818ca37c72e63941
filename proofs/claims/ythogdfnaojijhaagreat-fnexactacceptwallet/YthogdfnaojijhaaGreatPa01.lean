/- Contracts. -/
import Derived.WalkKit
import Derived.Below
import Derived.Test.YthogdfnaojijhaaGreatProg
import Derived.ProofKit
import Derived.Outline
import Derived.Handy
import Derived.Laws.StructEq
import Derived.Deep.RegionHeld3
namespace Go.Proofs.YthogdfnaojijhaaGreat
set_option maxRecDepth 100000
set_option maxHeartbeats 8000000
open Go.RowKit
set_option linter.unusedVariables false
set_option linter.unusedSimpArgs false

theorem zA {α:Type _} {xs:List α} {i:Nat} (h:i < xs.toArray.size):xs.toArray[i]=xs[i]'(by simpa using h):=rfl
theorem zB {α:Type _} {a:α} {ys:List α} {i:Nat} (h:i+1 < (a::ys).length):(a::ys)[i+1]'h=ys[i]'(Nat.lt_of_succ_lt_succ h):=rfl
theorem zC {α:Type _} {a:α} {ys:List α} (h:0 < (a::ys).length):(a::ys)[0]'h=a:=rfl
theorem zD {α:Type _} {xs:List α} {i:Nat} {a:α}:xs.toArray.setIfInBounds i a=(xs.set i a).toArray:=List.setIfInBounds_toArray ..
theorem zE {α:Type _} {a b:α} {ys:List α}:(a::ys).set 0 b=b::ys:=rfl
theorem zF {α:Type _} {a b:α} {ys:List α} {i:Nat}:(a::ys).set (i+1) b=a::ys.set i b:=rfl

theorem zN {w:World} {o:Obj}:Below w.heap.size w (w.alloc o):=(Below.refl _ _).alloc (Nat.le_refl _) _
theorem zL (w:World) (a:Addr) {v:Value} (h:w.cell? a=some v):a.block < w.heap.size:=World.block_lt_of_cell? w a h

/-- A goal with the numbers of the operations that are taken next. -/
def Zk (_:List Nat) (p:Prop):Prop:=p

section
variable {P:Program} {ops:Array Oper} {Q:Exit→Act→World→Prop} {md:Region.Mode} {S:World→Prop}

theorem Zk.go {p:Prop} (l:List Nat) (h:Zk l p):p:=h

theorem Zk.fin {p:Prop} (h:p):Zk [] p:=h

theorem Zk.st {i:Nat} {l:List Nat} {oi:Oper} {v:Value} {fuel:Nat} {listed:Array Bool} {a:Act} {w:World} (hi:ops[i]? = some oi)
    (hy:∀ w,S w→(execOp a.eval oi).run P w = .ok (.value v) w)
    (h:Zk l (wpAnyH P md ops Q S fuel (listed.setIfInBounds i true) (a.put oi.dst v) w))
    (hs:Region.noSelect ops=true:=by kernel_rfl) (hf:Region.free md ops listed i=true:=by kernel_rfl) (hr:(Region.ready md ops listed).contains i=true:=by kernel_rfl)
    (hQ:∀ c a w,Q (.panic c) (a.put oi.dst v) w→Q (.panic c) a w:=by first | exact fun _ _ _ h=>h | exact fun _ _ _ h=>nomatch h.1) (hw:Region.wanted oi (yielded ops a.tmps)=true:=by kernel_rfl) (hS:S w:=by assumption):Zk (i::l) (wpAnyH P md ops Q S (fuel+1) listed a w) :=
  wpAnyH_take hi hs hf hr hQ (Or.inl ⟨hw,hy⟩) hS h

theorem Zk.un {i:Nat} {l:List Nat} {oi:Oper} {fuel:Nat} {listed:Array Bool} {a:Act} {w:World} (hi:ops[i]? = some oi)
    (h:Zk l (wpAnyH P md ops Q S fuel (listed.setIfInBounds i true) (a.put oi.dst undef) w))
    (hs:Region.noSelect ops=true:=by kernel_rfl) (hf:Region.free md ops listed i=true:=by kernel_rfl) (hr:(Region.ready md ops listed).contains i=true:=by kernel_rfl)
    (hQ:∀ c a w,Q (.panic c) (a.put oi.dst undef) w→Q (.panic c) a w:=by first | exact fun _ _ _ h=>h | exact fun _ _ _ h=>nomatch h.1) (hw:Region.wanted oi (yielded ops a.tmps)=false:=by kernel_rfl) (hS:S w:=by assumption):Zk (i::l) (wpAnyH P md ops Q S (fuel+1) listed a w) :=
  wpAnyH_take hi hs hf hr hQ (Or.inr ⟨hw,rfl⟩) hS h

theorem Zk.rd {i:Nat} {o:Oper} {fuel:Nat} {listed:Array Bool} {a:Act} {w:World} (ho:ops[i]? = some o)
    (h:∀ K':Act→World→Prop,Shut (∀ a w,S w→(S w→wpAnyH P md ops Q S fuel (listed.setIfInBounds i true) a w)→K' a w)→if Region.wanted o (yielded ops a.tmps)=true then Oper.wp P o a w K' Q else K' (a.put o.dst undef) w)
    (hr:Region.ready md ops listed=[i]:=by kernel_rfl):wpAnyH P md ops Q S (fuel+1) listed a w :=
  wpAnyH_ready hr (by simp) (AllReadyH.cons ho h AllReadyH.nil)

end
structure qA0 where
 k:Int
 ho:Int
 hn:Int
 w:Int
 oo:Int
 on:Int
 to:Int
 tn:Int
deriving DecidableEq
def qM6 (p:Int):Bool:=decide (1≤p∧p≤8)
def qN3 (n:Int):Bool:=decide (1≤n∧n≤5)
def qB4 (o n:Int):Bool:=qM6 o&&qN3 n
def qC2 (o n:Int):Int:=if qB4 o n=true then 0 else 3
def QB0 (r:qA0):Bool :=
 if r.k=1 then r.oo==0&&r.on==0&&r.to==0&&r.tn==0
 else if r.k=2 then r.w==0&&r.to==0&&r.tn==0
 else if r.k=3 then r.w==0&&r.to==0
 else r.w==0
def qU5 (r:qA0):Bool :=
 if r.k=1 then qM6 r.w
 else if r.k=2 then qB4 r.oo r.on
 else if r.k=3 then qB4 r.oo r.on&&qN3 r.tn
 else qB4 r.oo r.on&&qB4 r.to r.tn
def qA2 (r:qA0):Int :=
 if ¬ (1≤r.k∧r.k≤4) then 1 else if qB4 r.ho r.hn=false then 3 else if QB0 r=false then 1 else if qU5 r=false then 3 else 0
def qB0 (w:World) (g off:Nat) (r:qA0):Prop :=
 w.cell? ⟨g,off,none⟩=some (.int .i64 r.k)∧w.cell? ⟨g,off+1,none⟩=some (.int .i64 r.ho)∧w.cell? ⟨g,off+2,none⟩=some (.int .i64 r.hn)∧w.cell? ⟨g,off+3,none⟩=some (.int .i64 r.w) ∧
 w.cell? ⟨g,off+4,none⟩=some (.int .i64 r.oo)∧w.cell? ⟨g,off+5,none⟩=some (.int .i64 r.on)∧w.cell? ⟨g,off+6,none⟩=some (.int .i64 r.to)∧w.cell? ⟨g,off+7,none⟩=some (.int .i64 r.tn)
theorem qB0.below {w w':World} {g off:Nat} {r:qA0} (h:qB0 w g off r) (hb:Below w.heap.size w w'):qB0 w' g off r:=by
 have key:∀ (o:Nat) (v:Value),w.cell? ⟨g,o,none⟩=some v→w'.cell? ⟨g,o,none⟩=some v:=fun o v e=>(hb.cell (p:=⟨g,o,none⟩) (zL w ⟨g,o,none⟩ e)).trans e
 obtain ⟨h0,h1,h2,h3,h4,h5,h6,h7⟩:=h
 exact ⟨key _ _ h0,key _ _ h1,key _ _ h2,key _ _ h3,key _ _ h4,key _ _ h5,key _ _ h6,key _ _ h7⟩
theorem qB0.new (w:World) (r:qA0) (t:TypeId):qB0 (w.alloc (.cells #[.int .i64 r.k,.int .i64 r.ho,.int .i64 r.hn,.int .i64 r.w,.int .i64 r.oo,.int .i64 r.on,.int .i64 r.to,.int .i64 r.tn] t)) w.heap.size 0 r:=by
 simp [qB0]

theorem qC0 {w w1:World} {o:Obj} (h:Below (w.alloc o).heap.size (w.alloc o) w1):Below w.heap.size w w1:=(zN).trans (h.mono (by simp))
theorem qU1 (p:Int) (w:World) :
  Calls Tryz.prog 186 #[.int .i64 p] w fun e w'=>e = .returned (.bool (qM6 p))∧w=w':=by
 unfold qM6
 go_each [1≤p,p≤8]=>(go_enter Tryz.func186,Tryz.ntmps186;go_wp2;go_ret;exact ⟨by simp [*],rfl⟩)
theorem QV6 (p:Int) (w:World) :
  Calls Tryz.prog 187 #[.int .i64 p] w fun e w'=>e = .returned (.bool (qN3 p))∧w=w':=by
 unfold qN3
 go_each [1≤p,p≤5]=>(go_enter Tryz.func187,Tryz.ntmps187;go_wp2;go_ret;exact ⟨by simp [*],rfl⟩)
theorem QW0 (p:Int) (w:World) :
  Calls Tryz.prog 210 #[.int .i64 p] w fun e w'=>e = .returned (.bool (qM6 p))∧w=w':=by
 unfold qM6
 go_each [1≤p,p≤8]=>(go_enter Tryz.func210,Tryz.ntmps210;go_wp2;go_ret;exact ⟨by simp [*],rfl⟩)
theorem QW1 (p:Int) (w:World) :
  Calls Tryz.prog 211 #[.int .i64 p] w fun e w'=>e = .returned (.bool (qN3 p))∧w=w':=by
 unfold qN3
 go_each [1≤p,p≤5]=>(go_enter Tryz.func211,Tryz.ntmps211;go_wp2;go_ret;exact ⟨by simp [*],rfl⟩)
theorem qK0 (o n:Int) (w:World) :
  Calls Tryz.prog 166 #[.agg #[.int .i64 o,.int .i64 n]] w fun e w'=>e = .returned (.bool (qB4 o n))∧Below w.heap.size w w':=by
 unfold qB4
 cases hp:qM6 o <;> cases hn:qN3 n
 all_goals
  go_enter Tryz.func166,Tryz.ntmps166
  go_wp2_with (first | (go_at_call 186;refine (qU1 o _).mono ?_;rintro e w' ⟨rfl,rfl⟩;rw [hp]) | (go_at_call 187;refine (QV6 n _).mono ?_;rintro e w' ⟨rfl,rfl⟩;rw [hn]))
  go_ret
  exact ⟨rfl,by go_grown⟩
theorem qB2 (o n:Int) (w:World) :
  Calls Tryz.prog 192 #[.agg #[.int .i64 o,.int .i64 n]] w fun e w'=>e = .returned (.int .i64 (qC2 o n))∧Below w.heap.size w w':=by
 unfold qC2 qB4
 cases hp:qM6 o <;> cases hn:qN3 n
 all_goals
  go_enter Tryz.func192,Tryz.ntmps192
  go_wp2_with (first | (go_at_call 210;refine (QW0 o _).mono ?_;rintro e w' ⟨rfl,rfl⟩;rw [hp]) | (go_at_call 211;refine (QW1 n _).mono ?_;rintro e w' ⟨rfl,rfl⟩;rw [hn]))
  go_ret
  exact ⟨rfl,by go_grown⟩

def qF5 (zs:List qA0):Nat→Int
 | 0=>0
 | k+1=>if qF5 zs k≠0 then qF5 zs k else match zs[k]? with
  | none=>0
  | some r=>if qA2 r≠0 then qA2 r else if r∈zs.take k then 6 else 0
def qA7 (zs:List qA0):Int:=if 16 < zs.length then 2 else qF5 zs zs.length
theorem qK4 (zs:List qA0) (k m:Nat) (c:Int) (hc:c≠0) (h:qF5 zs k=c) (hm:k≤m):qF5 zs m=c:=by
  induction m with
  | zero => obtain rfl:k=0:=by omega
            exact h
  | succ m ih =>
    by_cases e:k=m+1
    · subst e;exact h
    · have:=ih (by omega)
      simp only [qF5,this]
      rw [if_pos hc]
theorem qT3 (zs:List qA0) (k:Nat) (r:qA0) (hk:zs[k]? = some r) (h0:qF5 zs k=0) (hr:qA2 r≠0):qF5 zs (k+1)=qA2 r:=by
 simp [qF5,h0,hk,hr]
theorem qV4 (zs:List qA0) (k:Nat) (r:qA0) (hk:zs[k]? = some r) (h0:qF5 zs k=0) (hr:qA2 r=0) (hm:r∈zs.take k):qF5 zs (k+1)=6:=by
 simp [qF5,h0,hk,hr,hm]
theorem QE0 (zs:List qA0) (k:Nat) (r:qA0) (hk:zs[k]? = some r) (h0:qF5 zs k=0) (hr:qA2 r=0) (hm:¬ r∈zs.take k):qF5 zs (k+1)=0:=by
 simp [qF5,h0,hk,hr,hm]
theorem qI9 (zs:List qA0) (k:Nat) (r:qA0):r∈zs.take k↔∃ j,j < k∧zs[j]? = some r:=by
 rw [List.mem_iff_getElem?]
 constructor
 ·rintro ⟨j,hj⟩
  rw [List.getElem?_take] at hj
  by_cases h:j < k
  ·rw [if_pos h] at hj;exact ⟨j,h,hj⟩
  ·rw [if_neg h] at hj;cases hj
 ·rintro ⟨j,h,hj⟩
  exact ⟨j,by rw [List.getElem?_take,if_pos h];exact hj⟩
def qF7 (w:World) (g off:Nat) (zs:List qA0):Prop:=∀ k r,zs[k]? = some r→qB0 w g (off+k * 8) r
theorem qF7.below {w w':World} {g off:Nat} {zs:List qA0} (h:qF7 w g off zs) (hb:Below w.heap.size w w'):qF7 w' g off zs:=fun k r e=>(h k r e).below hb
def qA4 (w:World) (a:Option Addr) (len:Nat) (zs:List qA0):Prop:=zs.length=len∧(0 < len→∃ b off,a=some ⟨b,off,none⟩∧qF7 w b off zs)
theorem qA4.below {w w':World} {a:Option Addr} {len:Nat} {zs:List qA0} (h:qA4 w a len zs) (hb:Below w.heap.size w w'):qA4 w' a len zs:=by
 refine ⟨h.1,fun hl=>?_⟩
 obtain ⟨b,off,e,hr⟩:=h.2 hl
 exact ⟨b,off,e,hr.below hb⟩
theorem qA4.at {w:World} {a:Option Addr} {len:Nat} {zs:List qA0} (h:qA4 w a len zs) {k:Nat} (hk:k < len) :
  ∃ b off r,a=some ⟨b,off,none⟩∧zs[k]? = some r∧qB0 w b (off+k * 8) r:=by
 obtain ⟨b,off,e,hr⟩:=h.2 (by omega)
 have hl:=h.1
 exact ⟨b,off,zs[k]'(by omega),e,List.getElem?_eq_getElem (by omega),hr k _ (List.getElem?_eq_getElem (by omega))⟩
theorem qA4.here {w:World} {b off len:Nat} {zs:List qA0} (h:qA4 w (some ⟨b,off,none⟩) len zs) {k:Nat} (hk:k < len):∃ r,zs[k]? = some r∧qB0 w b (off+k * 8) r:=by
 obtain ⟨b',off',r,e,h1,h2⟩:=h.at hk
 cases e
 exact ⟨r,h1,h2⟩
theorem qA4.cut {w:World} {a:Option Addr} {len:Nat} {zs:List qA0} (h:qA4 w a len zs) {k:Nat} (hk:k≤len):qA4 w a k (zs.take k):=by
 refine ⟨by have:=h.1;simp;omega,fun hp=>?_⟩
 obtain ⟨b,off,e,hr⟩:=h.2 (by omega)
 refine ⟨b,off,e,fun j r ej=>hr j r ?_⟩
 rw [List.getElem?_take] at ej
 split at ej
 ·exact ej
 ·cases ej
theorem qA4.of {w:World} {g len:Nat} {zs:List qA0} (hl:zs.length=len) (h:qF7 w g 0 zs):qA4 w (some ⟨g,0,none⟩) len zs :=
 ⟨hl,fun _=>⟨g,0,rfl,h⟩⟩
theorem qB6 (W:World):(∀ b o,b < W.heap.size→W.drew.cell? ⟨b,o,none⟩=W.cell? ⟨b,o,none⟩)∧Below W.heap.size W W.drew :=
 ⟨fun _ _ _=>rfl,⟨rfl,rfl,rfl,Nat.le_refl _,fun _ _=>rfl⟩⟩
theorem qA8 {W w w':World} (h:(∀ b o,b < W.heap.size→w.cell? ⟨b,o,none⟩=W.cell? ⟨b,o,none⟩)∧Below W.heap.size W w) (hb:Below w.heap.size w w'):(∀ b o,b < W.heap.size→w'.cell? ⟨b,o,none⟩=W.cell? ⟨b,o,none⟩)∧Below W.heap.size W w':=by
 have hz:=h.2.size
 exact ⟨fun b o hl=>(hb.cell (p:=⟨b,o,none⟩) (by show b < w.heap.size;omega)).trans (h.1 b o hl),h.2.trans (hb.mono hz)⟩
def RulesArg (w:World) (a:Option Addr) (len:Nat) (zs:List qA0):Prop:=qA4 w a len zs∧len≤maxLen

end Go.Proofs.YthogdfnaojijhaaGreat
