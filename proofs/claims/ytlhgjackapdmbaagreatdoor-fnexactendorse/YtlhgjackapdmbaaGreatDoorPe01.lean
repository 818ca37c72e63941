/- Contracts. -/
import Derived.WalkKit
import Derived.Below
import Derived.Deep.RegionHeld3
import Derived.Test.YtlhgjackapdmbaaGreatDoorProg
namespace Go.Proofs.YtlhgjackapdmbaaGreatDoor
set_option maxRecDepth 100000
set_option maxHeartbeats 8000000
open Go.RowKit
set_option linter.unusedVariables false
set_option linter.unusedSimpArgs false

theorem zA {α:Type _} {xs:List α} {i:Nat} (h:i < xs.toArray.size):xs.toArray[i]=xs[i]'(by simpa using h):=rfl
theorem zB {α:Type _} {a:α} {ys:List α} {i:Nat} (h:i+1 < (a::ys).length):(a::ys)[i+1]'h=ys[i]'(Nat.lt_of_succ_lt_succ h):=rfl
theorem zC {α:Type _} {a:α} {ys:List α} (h:0 < (a::ys).length):(a::ys)[0]'h=a:=rfl
theorem zD {α:Type _} {xs:List α} {i:Nat} {a:α}:xs.toArray.setIfInBounds i a=(xs.set i a).toArray:=List.setIfInBounds_toArray ..
theorem zE {α:Type _} {a b:α} {ys:List α}:(a::ys).set 0 b=b::ys:=rfl
theorem zF {α:Type _} {a b:α} {ys:List α} {i:Nat}:(a::ys).set (i+1) b=a::ys.set i b:=rfl

theorem zN {w:World} {o:Obj}:Below w.heap.size w (w.alloc o):=(Below.refl _ _).alloc (Nat.le_refl _) _
theorem zL (w:World) (a:Addr) {v:Value} (h:w.cell? a=some v):a.block < w.heap.size:=World.block_lt_of_cell? w a h

/-- A goal with the numbers of the operations that are taken next. -/
def Zk (_:List Nat) (p:Prop):Prop:=p

section
variable {P:Program} {ops:Array Oper} {Q:Exit→Act→World→Prop} {md:Region.Mode} {S:World→Prop}

theorem Zk.go {p:Prop} (l:List Nat) (h:Zk l p):p:=h

theorem Zk.fin {p:Prop} (h:p):Zk [] p:=h

theorem Zk.st {i:Nat} {l:List Nat} {oi:Oper} {v:Value} {fuel:Nat} {listed:Array Bool} {a:Act} {w:World} (hi:ops[i]? = some oi)
    (hy:∀ w,S w→(execOp a.eval oi).run P w = .ok (.value v) w)
    (h:Zk l (wpAnyH P md ops Q S fuel (listed.setIfInBounds i true) (a.put oi.dst v) w))
    (hs:Region.noSelect ops=true:=by kernel_rfl) (hf:Region.free md ops listed i=true:=by kernel_rfl) (hr:(Region.ready md ops listed).contains i=true:=by kernel_rfl)
    (hQ:∀ c a w,Q (.panic c) (a.put oi.dst v) w→Q (.panic c) a w:=by first | exact fun _ _ _ h=>h | exact fun _ _ _ h=>nomatch h.1) (hw:Region.wanted oi (yielded ops a.tmps)=true:=by kernel_rfl) (hS:S w:=by assumption):Zk (i::l) (wpAnyH P md ops Q S (fuel+1) listed a w) :=
  wpAnyH_take hi hs hf hr hQ (Or.inl ⟨hw,hy⟩) hS h

theorem Zk.un {i:Nat} {l:List Nat} {oi:Oper} {fuel:Nat} {listed:Array Bool} {a:Act} {w:World} (hi:ops[i]? = some oi)
    (h:Zk l (wpAnyH P md ops Q S fuel (listed.setIfInBounds i true) (a.put oi.dst undef) w))
    (hs:Region.noSelect ops=true:=by kernel_rfl) (hf:Region.free md ops listed i=true:=by kernel_rfl) (hr:(Region.ready md ops listed).contains i=true:=by kernel_rfl)
    (hQ:∀ c a w,Q (.panic c) (a.put oi.dst undef) w→Q (.panic c) a w:=by first | exact fun _ _ _ h=>h | exact fun _ _ _ h=>nomatch h.1) (hw:Region.wanted oi (yielded ops a.tmps)=false:=by kernel_rfl) (hS:S w:=by assumption):Zk (i::l) (wpAnyH P md ops Q S (fuel+1) listed a w) :=
  wpAnyH_take hi hs hf hr hQ (Or.inr ⟨hw,rfl⟩) hS h

theorem Zk.rd {i:Nat} {o:Oper} {fuel:Nat} {listed:Array Bool} {a:Act} {w:World} (ho:ops[i]? = some o)
    (h:∀ K':Act→World→Prop,Shut (∀ a w,S w→(S w→wpAnyH P md ops Q S fuel (listed.setIfInBounds i true) a w)→K' a w)→if Region.wanted o (yielded ops a.tmps)=true then Oper.wp P o a w K' Q else K' (a.put o.dst undef) w)
    (hr:Region.ready md ops listed=[i]:=by kernel_rfl):wpAnyH P md ops Q S (fuel+1) listed a w :=
  wpAnyH_ready hr (by simp) (AllReadyH.cons ho h AllReadyH.nil)

end
structure qA1 where
 k:Int
 ho:Int
 hn:Int
 w:Int
 oo:Int
 on:Int
 to:Int
 tn:Int
deriving DecidableEq
def qU5 (p:Int):Bool:=decide (1≤p∧p≤8)
def qV6 (n:Int):Bool:=decide (1≤n∧n≤5)
def qD3 (o n:Int):Bool:=qU5 o&&qV6 n
def qF0 (o n:Int):Int:=if qD3 o n=true then 0 else 3
def QN8 (r:qA1):Bool :=
 if r.k=1 then r.oo==0&&r.on==0&&r.to==0&&r.tn==0
 else if r.k=2 then r.w==0&&r.to==0&&r.tn==0
 else if r.k=3 then r.w==0&&r.to==0
 else r.w==0
def QE4 (r:qA1):Bool :=
 if r.k=1 then qU5 r.w
 else if r.k=2 then qD3 r.oo r.on
 else if r.k=3 then qD3 r.oo r.on&&qV6 r.tn
 else qD3 r.oo r.on&&qD3 r.to r.tn
def qA8 (r:qA1):Int :=
 if ¬ (1≤r.k∧r.k≤4) then 1 else if qD3 r.ho r.hn=false then 3 else if QN8 r=false then 1 else if QE4 r=false then 3 else 0
def qC6 (w:World) (g off:Nat) (r:qA1):Prop :=
 w.cell? ⟨g,off,none⟩=some (.int .i64 r.k)∧w.cell? ⟨g,off+1,none⟩=some (.int .i64 r.ho)∧w.cell? ⟨g,off+2,none⟩=some (.int .i64 r.hn)∧w.cell? ⟨g,off+3,none⟩=some (.int .i64 r.w) ∧
 w.cell? ⟨g,off+4,none⟩=some (.int .i64 r.oo)∧w.cell? ⟨g,off+5,none⟩=some (.int .i64 r.on)∧w.cell? ⟨g,off+6,none⟩=some (.int .i64 r.to)∧w.cell? ⟨g,off+7,none⟩=some (.int .i64 r.tn)
theorem qC6.below {w w':World} {g off:Nat} {r:qA1} (h:qC6 w g off r) (hb:Below w.heap.size w w'):qC6 w' g off r:=by
 have key:∀ (o:Nat) (v:Value),w.cell? ⟨g,o,none⟩=some v→w'.cell? ⟨g,o,none⟩=some v:=fun o v e=>(hb.cell (p:=⟨g,o,none⟩) (zL w ⟨g,o,none⟩ e)).trans e
 obtain ⟨h0,h1,h2,h3,h4,h5,h6,h7⟩:=h
 exact ⟨key _ _ h0,key _ _ h1,key _ _ h2,key _ _ h3,key _ _ h4,key _ _ h5,key _ _ h6,key _ _ h7⟩
theorem qC6.new (w:World) (r:qA1) (t:TypeId):qC6 (w.alloc (.cells #[.int .i64 r.k,.int .i64 r.ho,.int .i64 r.hn,.int .i64 r.w,.int .i64 r.oo,.int .i64 r.on,.int .i64 r.to,.int .i64 r.tn] t)) w.heap.size 0 r:=by
 simp [qC6]

end Go.Proofs.YtlhgjackapdmbaaGreatDoor
