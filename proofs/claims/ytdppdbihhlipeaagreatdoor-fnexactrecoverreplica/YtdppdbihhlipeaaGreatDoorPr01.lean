/- Contracts. -/
import Derived.WalkKit
import Derived.Below
import Derived.Deep.RegionHeld3
import Derived.Test.YtdppdbihhlipeaaGreatDoorProg
namespace Go.Proofs.YtdppdbihhlipeaaGreatDoor
set_option maxRecDepth 100000
set_option maxHeartbeats 8000000
open Go.RowKit
set_option linter.unusedVariables false
set_option linter.unusedSimpArgs false

theorem zA {α:Type _} {xs:List α} {i:Nat} (h:i < xs.toArray.size):xs.toArray[i]=xs[i]'(by simpa using h):=rfl
theorem zB {α:Type _} {a:α} {ys:List α} {i:Nat} (h:i+1 < (a::ys).length):(a::ys)[i+1]'h=ys[i]'(Nat.lt_of_succ_lt_succ h):=rfl
theorem zC {α:Type _} {a:α} {ys:List α} (h:0 < (a::ys).length):(a::ys)[0]'h=a:=rfl
theorem zD {α:Type _} {xs:List α} {i:Nat} {a:α}:xs.toArray.setIfInBounds i a=(xs.set i a).toArray:=List.setIfInBounds_toArray ..
theorem zE {α:Type _} {a b:α} {ys:List α}:(a::ys).set 0 b=b::ys:=rfl
theorem zF {α:Type _} {a b:α} {ys:List α} {i:Nat}:(a::ys).set (i+1) b=a::ys.set i b:=rfl

theorem zN {w:World} {o:Obj}:Below w.heap.size w (w.alloc o):=(Below.refl _ _).alloc (Nat.le_refl _) _
theorem zL (w:World) (a:Addr) {v:Value} (h:w.cell? a=some v):a.block < w.heap.size:=World.block_lt_of_cell? w a h

/-- A goal with the numbers of the operations that are taken next. -/
def Zk (_:List Nat) (p:Prop):Prop:=p

section
variable {P:Program} {ops:Array Oper} {Q:Exit->Act->World->Prop} {md:Region.Mode} {S:World->Prop}

theorem Zk.go {p:Prop} (l:List Nat) (h:Zk l p):p:=h

theorem Zk.fin {p:Prop} (h:p):Zk [] p:=h

theorem Zk.st {i:Nat} {l:List Nat} {oi:Oper} {v:Value} {fuel:Nat} {listed:Array Bool} {a:Act} {w:World} (hi:ops[i]? = some oi)
    (hy:∀ w,S w->(execOp a.eval oi).run P w = .ok (.value v) w)
    (h:Zk l (wpAnyH P md ops Q S fuel (listed.setIfInBounds i true) (a.put oi.dst v) w))
    (hs:Region.noSelect ops=true:=by kernel_rfl) (hf:Region.free md ops listed i=true:=by kernel_rfl) (hr:(Region.ready md ops listed).contains i=true:=by kernel_rfl)
    (hQ:∀ c a w,Q (.panic c) (a.put oi.dst v) w->Q (.panic c) a w:=by first | exact fun _ _ _ h=>h | exact fun _ _ _ h=>nomatch h.1) (hw:Region.wanted oi (yielded ops a.tmps)=true:=by kernel_rfl) (hS:S w:=by assumption):Zk (i::l) (wpAnyH P md ops Q S (fuel+1) listed a w) :=
  wpAnyH_take hi hs hf hr hQ (Or.inl ⟨hw,hy⟩) hS h

theorem Zk.un {i:Nat} {l:List Nat} {oi:Oper} {fuel:Nat} {listed:Array Bool} {a:Act} {w:World} (hi:ops[i]? = some oi)
    (h:Zk l (wpAnyH P md ops Q S fuel (listed.setIfInBounds i true) (a.put oi.dst undef) w))
    (hs:Region.noSelect ops=true:=by kernel_rfl) (hf:Region.free md ops listed i=true:=by kernel_rfl) (hr:(Region.ready md ops listed).contains i=true:=by kernel_rfl)
    (hQ:∀ c a w,Q (.panic c) (a.put oi.dst undef) w->Q (.panic c) a w:=by first | exact fun _ _ _ h=>h | exact fun _ _ _ h=>nomatch h.1) (hw:Region.wanted oi (yielded ops a.tmps)=false:=by kernel_rfl) (hS:S w:=by assumption):Zk (i::l) (wpAnyH P md ops Q S (fuel+1) listed a w) :=
  wpAnyH_take hi hs hf hr hQ (Or.inr ⟨hw,rfl⟩) hS h

theorem Zk.rd {i:Nat} {o:Oper} {fuel:Nat} {listed:Array Bool} {a:Act} {w:World} (ho:ops[i]? = some o)
    (h:∀ K':Act->World->Prop,Shut (∀ a w,S w->(S w->wpAnyH P md ops Q S fuel (listed.setIfInBounds i true) a w)->K' a w)->if Region.wanted o (yielded ops a.tmps)=true then Oper.wp P o a w K' Q else K' (a.put o.dst undef) w)
    (hr:Region.ready md ops listed=[i]:=by kernel_rfl):wpAnyH P md ops Q S (fuel+1) listed a w :=
  wpAnyH_ready hr (by simp) (AllReadyH.cons ho h AllReadyH.nil)

end
structure qA2 where
 k:Int
 ho:Int
 hn:Int
 w:Int
 oo:Int
 on:Int
 to:Int
 tn:Int
deriving DecidableEq
def qU0 (p:Int):Bool:=decide (1<=p/\p<=8)
def qV1 (n:Int):Bool:=decide (1<=n/\n<=5)
def qD6 (o n:Int):Bool:=qU0 o&&qV1 n
def qF1 (o n:Int):Int:=if qD6 o n=true then 0 else 3
def QP5 (r:qA2):Bool :=
 if r.k=1 then r.oo==0&&r.on==0&&r.to==0&&r.tn==0
 else if r.k=2 then r.w==0&&r.to==0&&r.tn==0
 else if r.k=3 then r.w==0&&r.to==0
 else r.w==0
def QE3 (r:qA2):Bool :=
 if r.k=1 then qU0 r.w
 else if r.k=2 then qD6 r.oo r.on
 else if r.k=3 then qD6 r.oo r.on&&qV1 r.tn
 else qD6 r.oo r.on&&qD6 r.to r.tn
def qA8 (r:qA2):Int :=
 if ¬ (1<=r.k/\r.k<=4) then 1 else if qD6 r.ho r.hn=false then 3 else if QP5 r=false then 1 else if QE3 r=false then 3 else 0
def qD0 (w:World) (g off:Nat) (r:qA2):Prop :=
 w.cell? ⟨g,off,none⟩=some (.int .i64 r.k)/\w.cell? ⟨g,off+1,none⟩=some (.int .i64 r.ho)/\w.cell? ⟨g,off+2,none⟩=some (.int .i64 r.hn)/\w.cell? ⟨g,off+3,none⟩=some (.int .i64 r.w) /\
 w.cell? ⟨g,off+4,none⟩=some (.int .i64 r.oo)/\w.cell? ⟨g,off+5,none⟩=some (.int .i64 r.on)/\w.cell? ⟨g,off+6,none⟩=some (.int .i64 r.to)/\w.cell? ⟨g,off+7,none⟩=some (.int .i64 r.tn)
theorem qD0.below {w w':World} {g off:Nat} {r:qA2} (h:qD0 w g off r) (hb:Below w.heap.size w w'):qD0 w' g off r:=by
 have key:∀ (o:Nat) (v:Value),w.cell? ⟨g,o,none⟩=some v->w'.cell? ⟨g,o,none⟩=some v:=fun o v e=>(hb.cell (p:=⟨g,o,none⟩) (zL w ⟨g,o,none⟩ e)).trans e
 obtain ⟨h0,h1,h2,h3,h4,h5,h6,h7⟩:=h;exact ⟨key _ _ h0,key _ _ h1,key _ _ h2,key _ _ h3,key _ _ h4,key _ _ h5,key _ _ h6,key _ _ h7⟩
theorem qD0.new (w:World) (r:qA2) (t:TypeId):qD0 (w.alloc (.cells #[.int .i64 r.k,.int .i64 r.ho,.int .i64 r.hn,.int .i64 r.w,.int .i64 r.oo,.int .i64 r.on,.int .i64 r.to,.int .i64 r.tn] t)) w.heap.size 0 r:=by
 simp [qD0]

def qL0 (zs:List qA2):Nat->Int
 | 0=>0
 | k+1=>if qL0 zs k≠0 then qL0 zs k else match zs[k]? with
  | none=>0
  | some r=>if qA8 r≠0 then qA8 r else if r∈zs.take k then 6 else 0
def qD1 (zs:List qA2):Int:=if 16 < zs.length then 2 else qL0 zs zs.length
theorem qQ9 (zs:List qA2) (k m:Nat) (c:Int) (hc:c≠0) (h:qL0 zs k=c) (hm:k<=m):qL0 zs m=c:=by
  induction m with
  | zero => obtain rfl:k=0:=by omega
            exact h
  | succ m ih =>
    by_cases e:k=m+1
    · subst e;exact h
    · have:=ih (by omega);simp only [qL0,this];rw [if_pos hc]
theorem QD2 (zs:List qA2) (k:Nat) (r:qA2) (hk:zs[k]? = some r) (h0:qL0 zs k=0) (hr:qA8 r≠0):qL0 zs (k+1)=qA8 r:=by
 simp [qL0,h0,hk,hr]
theorem QF4 (zs:List qA2) (k:Nat) (r:qA2) (hk:zs[k]? = some r) (h0:qL0 zs k=0) (hr:qA8 r=0) (hm:r∈zs.take k):qL0 zs (k+1)=6:=by
 simp [qL0,h0,hk,hr,hm]
theorem QS8 (zs:List qA2) (k:Nat) (r:qA2) (hk:zs[k]? = some r) (h0:qL0 zs k=0) (hr:qA8 r=0) (hm:¬ r∈zs.take k):qL0 zs (k+1)=0:=by
 simp [qL0,h0,hk,hr,hm]
theorem qP1 (zs:List qA2) (k:Nat) (r:qA2):r∈zs.take k↔∃ j,j < k/\zs[j]? = some r:=by
 rw [List.mem_iff_getElem?];constructor
 ·rintro ⟨j,hj⟩;rw [List.getElem?_take] at hj;by_cases h:j < k
  ·rw [if_pos h] at hj;exact ⟨j,h,hj⟩
  ·rw [if_neg h] at hj;cases hj
 ·rintro ⟨j,h,hj⟩;exact ⟨j,by rw [List.getElem?_take,if_pos h];exact hj⟩
def qL2 (w:World) (g off:Nat) (zs:List qA2):Prop:=∀ k r,zs[k]? = some r->qD0 w g (off+k * 8) r
theorem qL2.below {w w':World} {g off:Nat} {zs:List qA2} (h:qL2 w g off zs) (hb:Below w.heap.size w w'):qL2 w' g off zs:=fun k r e=>(h k r e).below hb
def qB8 (w:World) (a:Option Addr) (len:Nat) (zs:List qA2):Prop:=zs.length=len/\(0 < len->∃ b off,a=some ⟨b,off,none⟩/\qL2 w b off zs)
theorem qB8.below {w w':World} {a:Option Addr} {len:Nat} {zs:List qA2} (h:qB8 w a len zs) (hb:Below w.heap.size w w'):qB8 w' a len zs:=by
 refine ⟨h.1,fun hl=>?_⟩;obtain ⟨b,off,e,hr⟩:=h.2 hl;exact ⟨b,off,e,hr.below hb⟩
theorem qB8.at {w:World} {a:Option Addr} {len:Nat} {zs:List qA2} (h:qB8 w a len zs) {k:Nat} (hk:k < len) :
  ∃ b off r,a=some ⟨b,off,none⟩/\zs[k]? = some r/\qD0 w b (off+k * 8) r:=by
 obtain ⟨b,off,e,hr⟩:=h.2 (by omega);have hl:=h.1;exact ⟨b,off,zs[k]'(by omega),e,List.getElem?_eq_getElem (by omega),hr k _ (List.getElem?_eq_getElem (by omega))⟩
theorem qB8.here {w:World} {b off len:Nat} {zs:List qA2} (h:qB8 w (some ⟨b,off,none⟩) len zs) {k:Nat} (hk:k < len):∃ r,zs[k]? = some r/\qD0 w b (off+k * 8) r:=by
 obtain ⟨b',off',r,e,h1,h2⟩:=h.at hk
 cases e;exact ⟨r,h1,h2⟩
theorem qB8.cut {w:World} {a:Option Addr} {len:Nat} {zs:List qA2} (h:qB8 w a len zs) {k:Nat} (hk:k<=len):qB8 w a k (zs.take k):=by
 refine ⟨by have:=h.1;simp;omega,fun hp=>?_⟩;obtain ⟨b,off,e,hr⟩:=h.2 (by omega);refine ⟨b,off,e,fun j r ej=>hr j r ?_⟩;rw [List.getElem?_take] at ej;split at ej
 ·exact ej
 ·cases ej
theorem qB8.of {w:World} {g len:Nat} {zs:List qA2} (hl:zs.length=len) (h:qL2 w g 0 zs):qB8 w (some ⟨g,0,none⟩) len zs :=
 ⟨hl,fun _=>⟨g,0,rfl,h⟩⟩
theorem qC1 (W:World):(∀ b o,b < W.heap.size->W.drew.cell? ⟨b,o,none⟩=W.cell? ⟨b,o,none⟩)/\Below W.heap.size W W.drew :=
 ⟨fun _ _ _=>rfl,⟨rfl,rfl,rfl,Nat.le_refl _,fun _ _=>rfl⟩⟩
theorem qA9 {W w w':World} (h:(∀ b o,b < W.heap.size->w.cell? ⟨b,o,none⟩=W.cell? ⟨b,o,none⟩)/\Below W.heap.size W w) (hb:Below w.heap.size w w'):(∀ b o,b < W.heap.size->w'.cell? ⟨b,o,none⟩=W.cell? ⟨b,o,none⟩)/\Below W.heap.size W w':=by
 have hz:=h.2.size;exact ⟨fun b o hl=>(hb.cell (p:=⟨b,o,none⟩) (by show b < w.heap.size;omega)).trans (h.1 b o hl),h.2.trans (hb.mono hz)⟩
def qJV (w:World) (a:Option Addr) (len:Nat) (zs:List qA2):Prop:=qB8 w a len zs/\len<=maxLen
