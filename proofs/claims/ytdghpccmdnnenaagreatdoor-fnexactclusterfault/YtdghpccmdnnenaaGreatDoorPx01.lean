/- Contracts. -/
import Derived.WalkKit
import Derived.Below
import Derived.Test.YtdghpccmdnnenaaGreatDoorProg
import Derived.ProofKit
import Derived.Outline
import Derived.Handy
import Derived.Laws.StructEq
import Derived.BigQuiet
import Derived.Deep.QuietTactic
import Derived.Deep.RegionHeld3
namespace Go.Proofs.YtdghpccmdnnenaaGreatDoor
set_option maxRecDepth 100000
set_option maxHeartbeats 8000000
open Go.RowKit Go.Proofs.Tryz
set_option linter.unusedVariables false
set_option linter.unusedSimpArgs false
abbrev iv(n:Int):Value:=.int .i64 n
abbrev CP:=Calls prog
theorem hJJ{p:Prop}(h:p):Hid p:=h
abbrev gA:=@List.getElem?_eq_getElem
abbrev gB:=@Nat.le_refl
abbrev gC:=@Below.refl
abbrev gD:=@Nat.lt_of_lt_of_le
abbrev gE:=@List.getElem?_eq_none
abbrev gF:=@World.cell?_setCell_other
abbrev gG:=@Nat.zero_add
abbrev gH:=@Nat.zero_le
abbrev gI:=@if_neg
abbrev gJ:=@Option.some.inj
abbrev gK:=@if_pos
abbrev gL:=@wp_region_held_drew
abbrev gN:=@Array.getElem?_eq_some_iff
abbrev gO:=@List.mem_of_getElem?
abbrev gP:=@Int.eq_ofNat_of_zero_le
abbrev gQ:=@bodyPost_ret
abbrev gR:=@Go.WideShapes.add_plain
abbrev gS:=@Nat.lt_of_succ_lt
abbrev gV:=@List.take_of_length_le
abbrev gW:=@List.cons.injEq
abbrev gX:=@List.mem_cons
abbrev gY:=@List.getElem?_eq_some_iff
abbrev gZ:=@wpAnyH_done
abbrev jA:=@congrArg
abbrev jB:=@World.ownsRow_nil
abbrev jC:=@World.size_alloc
abbrev jD:=@List.length_append
abbrev jE:=@World.frozen?_setCell
abbrev jF:=@Nat.le_trans
abbrev jG:=@wpList_append_own
abbrev jH:=@List.drop_of_length_le
abbrev jI:=@List.getElem?_map
abbrev jJ:=@List.getElem?_take
abbrev jK:=@run_callFunc_extern
abbrev jL:=@decide_eq_false
abbrev jN:=@List.pairwise_cons
abbrev jO:=@World.cell?_of_block
abbrev jP:=@World.size_setCell
abbrev jQ:=@decide_eq_true
abbrev jR:=@List.take_succ_eq_append_getElem
abbrev jS:=@Nat.add_zero
abbrev jT:=@info_parts
abbrev jU:=@List.pairwise_iff_getElem
abbrev jV:=@decide_eq_true_eq
abbrev jW:=@List.mem_iff_getElem?
abbrev jX:=@List.length_cons
abbrev jY:=@Bool.and_eq_true
abbrev jZ:=@DataW.trod_int
abbrev kC:=@AllReadyH.cons
abbrev kD:=@List.length_map
abbrev kE:=@Below.heap_setCell
abbrev kF:=@Nat.le_succ
abbrev kG:=@IntKind.wrap_i64
abbrev kH:=@World.ownsRow_lit
abbrev kI:=@List.length_take
abbrev kJ:=@Nat.zero_mul
abbrev kK:=@of_decide_eq_true
abbrev kL:=@List.mem_append
abbrev kM:=@World.cell?_alloc_lt
abbrev kN:=@List.getElem?_append_right
abbrev kO:=@List.size_toArray
abbrev kQ:=@List.take_length
abbrev kR:=@List.nil_append
abbrev kS:=@Int.toNat_natCast
abbrev kU:=@List.mem_map
abbrev kV:=@Option.bind_eq_some_iff
abbrev kW:=@List.length_drop
abbrev kX:=@Bool.eq_iff_iff
abbrev kY:=@List.getElem?_append_left
abbrev kZ:=@BitVec.ofInt_natCast
abbrev mB:=@AllReadyH.nil
theorem zA{α:Type _}{xs:List α}{i:Nat}(h:i<xs.toArray.size):xs.toArray[i]=xs[i]'(by simpa using h):=rfl
theorem zB{α:Type _}{a:α}{ys:List α}{i:Nat}(h:i+1<(a::ys).length):(a::ys)[i+1]'h=ys[i]'(Nat.lt_of_succ_lt_succ h):=rfl
theorem zC{α:Type _}{a:α}{ys:List α}(h:0<(a::ys).length):(a::ys)[0]'h=a:=rfl
theorem zD{α:Type _}{xs:List α}{i:Nat}{a:α}:xs.toArray.setIfInBounds i a=(xs.set i a).toArray:=List.setIfInBounds_toArray ..
theorem zE{α:Type _}{a b:α}{ys:List α}:(a::ys).set 0 b=b::ys:=rfl
theorem zF{α:Type _}{a b:α}{ys:List α}{i:Nat}:(a::ys).set (i+1) b=a::ys.set i b:=rfl
theorem zS{w:World}{a:Addr}{u:Value}{k:Nat}(h:k≠a.block):(w.setCell a u).heap[k]?=w.heap[k]? := kE w a u k h
theorem zN{w:World}{o:Obj}:Below w.heap.size w (w.alloc o):=(gC _ _).alloc (gB _) _
theorem zL(w:World)(a:Addr){v:Value}(h:w.cell? a=some v):a.block<w.heap.size:=World.block_lt_of_cell? w a h
/-- A goal with the numbers of the operations that are taken next. -/
def Zk(_:List Nat)(p:Prop):Prop:=p
section
variable {P:Program} {ops:Array Oper} {Q:Exit->Act->World->Prop} {md:Region.Mode} {S:World->Prop}
theorem Zk.go{p:Prop}(l:List Nat)(h:Zk l p):p:=h
theorem Zk.fin{p:Prop}(h:p):Zk [] p:=h
theorem Zk.st{i:Nat}{l:List Nat}{oi:Oper}{v:Value}{fuel:Nat}{listed:Array Bool}{a:Act}{w:World}(hi:ops[i]?=some oi)(hy:∀w,S w->(execOp a.eval oi).run P w=.ok (.value v) w)(h:Zk l (wpAnyH P md ops Q S fuel (listed.setIfInBounds i true) (a.put oi.dst v) w))(hs:Region.noSelect ops=true:=by kernel_rfl)(hf:Region.free md ops listed i=true:=by kernel_rfl)(hr:(Region.ready md ops listed).contains i=true:=by kernel_rfl)(hQ:∀c a w,Q (.panic c) (a.put oi.dst v) w->Q (.panic c) a w:=by first | exact fun _ _ _ h=>h | exact fun _ _ _ h=>nomatch h.1)(hw:Region.wanted oi (yielded ops a.tmps)=true:=by kernel_rfl)(hS:S w:=by assumption):Zk (i::l) (wpAnyH P md ops Q S (fuel+1) listed a w) :=
  wpAnyH_take hi hs hf hr hQ (Or.inl ⟨hw,hy⟩) hS h
theorem Zk.un{i:Nat}{l:List Nat}{oi:Oper}{fuel:Nat}{listed:Array Bool}{a:Act}{w:World}(hi:ops[i]?=some oi)(h:Zk l (wpAnyH P md ops Q S fuel (listed.setIfInBounds i true) (a.put oi.dst undef) w))(hs:Region.noSelect ops=true:=by kernel_rfl)(hf:Region.free md ops listed i=true:=by kernel_rfl)(hr:(Region.ready md ops listed).contains i=true:=by kernel_rfl)(hQ:∀c a w,Q (.panic c) (a.put oi.dst undef) w->Q (.panic c) a w:=by first | exact fun _ _ _ h=>h | exact fun _ _ _ h=>nomatch h.1)(hw:Region.wanted oi (yielded ops a.tmps)=false:=by kernel_rfl)(hS:S w:=by assumption):Zk (i::l) (wpAnyH P md ops Q S (fuel+1) listed a w) :=
  wpAnyH_take hi hs hf hr hQ (Or.inr ⟨hw,rfl⟩) hS h
theorem Zk.rd{i:Nat}{o:Oper}{fuel:Nat}{listed:Array Bool}{a:Act}{w:World}(ho:ops[i]?=some o)(h:∀K':Act->World->Prop,Shut (∀a w,S w->(S w->wpAnyH P md ops Q S fuel (listed.setIfInBounds i true) a w)->K' a w)->if Region.wanted o (yielded ops a.tmps)=true then Oper.wp P o a w K' Q else K' (a.put o.dst undef) w)(hr:Region.ready md ops listed=[i]:=by kernel_rfl):wpAnyH P md ops Q S (fuel+1) listed a w :=
  wpAnyH_ready hr (by simp) (kC ho h mB)
end
structure qA1 where
 k:Int
 ho:Int
 hn:Int
 w:Int
 oo:Int
 on:Int
 to:Int
 tn:Int
deriving DecidableEq
def qV2(p:Int):Bool:=decide (1<=p/\p<=8)
def qW1(n:Int):Bool:=decide (1<=n/\n<=5)
def qD1(o n:Int):Bool:=qV2 o&&qW1 n
def qE9(o n:Int):Int:=if qD1 o n=true then 0 else 3
def QS2(r:qA1):Bool :=
 if r.k=1 then r.oo==0&&r.on==0&&r.to==0&&r.tn==0
 else if r.k=2 then r.w==0&&r.to==0&&r.tn==0
 else if r.k=3 then r.w==0&&r.to==0
 else r.w==0
def QH5(r:qA1):Bool :=
 if r.k=1 then qV2 r.w
 else if r.k=2 then qD1 r.oo r.on
 else if r.k=3 then qD1 r.oo r.on&&qW1 r.tn
 else qD1 r.oo r.on&&qD1 r.to r.tn
def qA6(r:qA1):Int :=
 if ¬ (1<=r.k/\r.k<=4) then 1 else if qD1 r.ho r.hn=false then 3 else if QS2 r=false then 1 else if QH5 r=false then 3 else 0
def qC2(w:World)(g off:Nat)(r:qA1):Prop :=
 w.cell? ⟨g,off,none⟩=some (iv r.k)/\w.cell? ⟨g,off+1,none⟩=some (iv r.ho)/\w.cell? ⟨g,off+2,none⟩=some (iv r.hn)/\w.cell? ⟨g,off+3,none⟩=some (iv r.w) /\
 w.cell? ⟨g,off+4,none⟩=some (iv r.oo)/\w.cell? ⟨g,off+5,none⟩=some (iv r.on)/\w.cell? ⟨g,off+6,none⟩=some (iv r.to)/\w.cell? ⟨g,off+7,none⟩=some (iv r.tn)
theorem qC2.below{w w':World}{g off:Nat}{r:qA1}(h:qC2 w g off r)(hb:Below w.heap.size w w'):qC2 w' g off r:=by
 have key:∀(o:Nat) (v:Value),w.cell? ⟨g,o,none⟩=some v->w'.cell? ⟨g,o,none⟩=some v:=fun o v e=>(hb.cell (p:=⟨g,o,none⟩) (zL w ⟨g,o,none⟩ e)).trans e
 obtain⟨h0,h1,h2,h3,h4,h5,h6,h7⟩:=h;exact⟨key _ _ h0,key _ _ h1,key _ _ h2,key _ _ h3,key _ _ h4,key _ _ h5,key _ _ h6,key _ _ h7⟩
theorem qC2.new(w:World)(r:qA1)(t:TypeId):qC2 (w.alloc (.cells #[iv r.k,iv r.ho,iv r.hn,iv r.w,iv r.oo,iv r.on,iv r.to,iv r.tn] t)) w.heap.size 0 r:=by
 simp[qC2]
theorem qD5{w w1:World}{o:Obj}(h:Below (w.alloc o).heap.size (w.alloc o) w1):Below w.heap.size w w1:=(zN).trans (h.mono (by simp))
theorem QH0(p:Int)(w:World):
  CP 233 #[iv p] w fun e w'=>e=.returned (.bool (qV2 p))/\w=w':=by
 unfold qV2;go_each [1<=p,p<=8]=>(go_enter func233,ntmps233;go_wp2;go_ret;exact⟨by simp[*],rfl⟩)
theorem qEi(p:Int)(w:World):
  CP 234 #[iv p] w fun e w'=>e=.returned (.bool (qW1 p))/\w=w':=by
 unfold qW1;go_each [1<=p,p<=5]=>(go_enter func234,ntmps234;go_wp2;go_ret;exact⟨by simp[*],rfl⟩)
theorem qEp(p:Int)(w:World):
  CP 272 #[iv p] w fun e w'=>e=.returned (.bool (qV2 p))/\w=w':=by
 unfold qV2;go_each [1<=p,p<=8]=>(go_enter func272,ntmps272;go_wp2;go_ret;exact⟨by simp[*],rfl⟩)
theorem qEq(p:Int)(w:World):
  CP 273 #[iv p] w fun e w'=>e=.returned (.bool (qW1 p))/\w=w':=by
 unfold qW1;go_each [1<=p,p<=5]=>(go_enter func273,ntmps273;go_wp2;go_ret;exact⟨by simp[*],rfl⟩)
theorem qR4(o n:Int)(w:World):
  CP 210 #[.agg #[iv o,iv n]] w fun e w'=>e=.returned (.bool (qD1 o n))/\Below w.heap.size w w':=by
 unfold qD1;cases hp:qV2 o <;> cases hn:qW1 n
 all_goals
  go_enter func210,ntmps210;go_wp2_with (first | (go_at_call 233;refine (QH0 o _).mono ?_;rintro e w' ⟨rfl,rfl⟩;rw[hp]) | (go_at_call 234;refine (qEi n _).mono ?_;rintro e w' ⟨rfl,rfl⟩;rw[hn]))
  go_ret;exact⟨rfl,by go_grown⟩
theorem qC5(o n:Int)(w:World):
  CP 254 #[.agg #[iv o,iv n]] w fun e w'=>e=.returned (iv (qE9 o n))/\Below w.heap.size w w':=by
 unfold qE9 qD1;cases hp:qV2 o <;> cases hn:qW1 n
 all_goals
  go_enter func254,ntmps254;go_wp2_with (first | (go_at_call 272;refine (qEp o _).mono ?_;rintro e w' ⟨rfl,rfl⟩;rw[hp]) | (go_at_call 273;refine (qEq n _).mono ?_;rintro e w' ⟨rfl,rfl⟩;rw[hn]))
  go_ret;exact⟨rfl,by go_grown⟩
theorem bdN{B:Nat}{a w:World}(h:Below B a w)(n:Nat):Below B a (w.drewN n):=h.trans ⟨rfl,rfl,rfl,gB _,fun _ _=>rfl⟩
theorem qKU(g off:Nat)(r:qA1)(w:World)(h:qC2 w g off r)(hk:1<=r.k/\r.k<=4):
  CP 232 #[.pointer (some ⟨g,off,none⟩)] w fun e w'=>e=.returned (.bool (QS2 r))/\Below w.heap.size w w':=by
 obtain⟨k,ho,hn,wh,oo,on,tw,tn⟩:=r;obtain⟨h0,h1,h2,h3,h4,h5,h6,h7⟩:=h;simp only at h0 h1 h2 h3 h4 h5 h6 h7 hk;have hg:g<w.heap.size:=zL w ⟨g,off,none⟩ h0;have hk':k=1\/k=2\/k=3\/k=4:=by omega
 clear hk;simp only[QS2];rcases hk' with rfl|rfl|rfl|rfl
 .cases e1:(oo==0) <;> cases e2:(on==0) <;> cases e3:(tw==0) <;> cases e4:(tn==0)
  all_goals
   go_enter func232,ntmps232;go_wp2;go_quiet (fail)
   go_wp2;go_ret;exact⟨by simp[e1,e2,e3,e4],bdN (by go_grown) _⟩
 .cases e1:(wh==0) <;> cases e2:(tw==0) <;> cases e3:(tn==0)
  all_goals
   go_enter func232,ntmps232;go_wp2;go_quiet (fail)
   go_wp2;go_ret;exact⟨by simp[e1,e2,e3],bdN (by go_grown) _⟩
 .cases e1:(wh==0) <;> cases e2:(tw==0)
  all_goals
   go_enter func232,ntmps232;go_wp2;go_ret;exact⟨by simp[e1,e2],by go_grown⟩
 .cases e1:(wh==0)
  all_goals
   go_enter func232,ntmps232;go_wp2;go_ret;exact⟨by simp[e1],by go_grown⟩
theorem qJV(r:qA1)(w:World):
  CP 183 #[.agg #[iv r.k,iv r.ho,iv r.hn,iv r.w,iv r.oo,iv r.on,iv r.to,iv r.tn]] w fun e w' =>
   e=.returned (.agg #[iv r.k,iv r.ho,iv r.hn,iv r.w,iv r.oo,iv r.on,iv r.to,iv r.tn])/\Below w.heap.size w w':=by
 obtain⟨k,ho,hn,wh,oo,on,tw,tn⟩:=r;simp only;go_enter func183,ntmps183;go_wp2;go_returns
 exact⟨rfl,by go_grown⟩
