/- Contracts. -/
import Derived.Test.YtdppdbihhlipeaaGreatDoorPr25
import Derived.Test.YtdppdbihhlipeaaGreatDoorPr09
namespace Go.Proofs.YtdppdbihhlipeaaGreatDoor
set_option maxRecDepth 100000
set_option maxHeartbeats 8000000
open Go.RowKit
set_option linter.unusedVariables false
set_option linter.unusedSimpArgs false

section
open Go.RowKit Go.Extern.Stop Go.Stop Go.Extern
theorem Tryz.noAsN (v:Value) (xT:TypeId) (w:World):(Instr.typeAssert (.iface 266 v) xT 325 true).run Tryz.prog w = .ok (.tuple #[.nilIface,.bool false]) w:=run_typeAssert_lacksB Tryz.underlying325 (by kernel_rfl) (by kernel_rfl) v xT w
theorem Tryz.noAsS (v:Value) (xT:TypeId) (w:World):(Instr.typeAssert (.iface 338 v) xT 325 true).run Tryz.prog w = .ok (.tuple #[.nilIface,.bool false]) w:=run_typeAssert_lacksB Tryz.underlying325 (by kernel_rfl) (by kernel_rfl) v xT w
theorem Tryz.unN (v:Value) (xT:TypeId) (w:World):(Instr.typeAssert (.iface 266 v) xT 328 true).run Tryz.prog w = .ok (.tuple #[.iface 266 v,.bool true]) w:=run_typeAssert_hasB Tryz.underlying328 (by kernel_rfl) v xT w
theorem Tryz.noUnS (v:Value) (xT:TypeId) (w:World):(Instr.typeAssert (.iface 338 v) xT 328 true).run Tryz.prog w = .ok (.tuple #[.nilIface,.bool false]) w:=run_typeAssert_lacksB Tryz.underlying328 (by kernel_rfl) (by kernel_rfl) v xT w
theorem Tryz.noUmS (v:Value) (xT:TypeId) (w:World):(Instr.typeAssert (.iface 338 v) xT 330 true).run Tryz.prog w = .ok (.tuple #[.nilIface,.bool false]) w:=run_typeAssert_lacksB Tryz.underlying330 (by kernel_rfl) (by kernel_rfl) v xT w
theorem Tryz.methodUnwrap (a b c d e:Value) (w:World):(Go.method 473 266 (.agg #[a,b,c,d,e]) "Unwrap").run Tryz.prog w = .ok (255,.agg #[a,b,c,d,e]) w:=by kernel_rfl
theorem qHx (y:LkI) (v:Value) (w:World):Calls Tryz.prog 255 #[.agg #[.int .i64 y.e,.int .i64 y.c,.int .i64 y.p,.int .i64 y.f,.iface 264 v]] w fun e w'=>e = .returned (.iface 264 v)/\w'=w.alloc (.cells #[.int .i64 y.e,.int .i64 y.c,.int .i64 y.p,.int .i64 y.f,.iface 264 v] 266):=by
 go_enter Tryz.func255,Tryz.ntmps255;go_wp2;go_ret;exact ⟨rfl,rfl⟩
theorem QH3 {B b:Nat} {a:World} (hb:B<=b):∀ (vs:List Value) (o:Nat) (w:World),Below B a w->Below B a (w.setCells b o vs)
 | [],_,_,h=>h
 | v::r,o,w,h=>QH3 hb r (o+1) _ (h.setCell (p:=⟨b,o,none⟩) hb v)
/-- errors.As at a needError that wraps a takenError. -/
theorem qLJ (y x:LkI) (tb:Nat) (w:World) (hg:w.cell? ⟨2,0,none⟩=some (.iface 320 (.agg #[.pointer (some ⟨3,238,none⟩)]))) (ht0:∀ j,j < 4->(w.cell? ⟨tb,0+j,none⟩).isSome=true) (hf0:∀ j,j < 4->w.frozen? ⟨tb,0+j,none⟩=false) :
  Calls Tryz.prog 193 #[.iface 266 (.agg #[.int .i64 y.e,.int .i64 y.c,.int .i64 y.p,.int .i64 y.f,.iface 264 (.agg #[.int .i64 x.e,.int .i64 x.c,.int .i64 x.p,.int .i64 x.f])]),.iface 268 (.pointer (some ⟨tb,0,none⟩))] w fun ev w'=>ev = .returned (.bool true)/\Below tb w w':=by
 have h6:=@run_callFunc_extern Tryz.prog 213 _ (fun args=>ReflectliteValue.unpack (args.getD 0 (.tuple #[]))) Tryz.func213 (by kernel_rfl) (by kernel_rfl) (by kernel_rfl) (by kernel_rfl);have h7:=@run_callFunc_extern Tryz.prog 214 _ (ReflectliteValue.methodAny (ReflectliteValue.valueError "reflectlite.Value.Type" 0) (fun t _ _ _=>ReflectliteType.toType t)) Tryz.func214 (by kernel_rfl) (by kernel_rfl) (by kernel_rfl) (by kernel_rfl);have h8:=@run_callFunc_extern Tryz.prog 215 _ (ReflectliteValue.method (ReflectliteValue.valueError "reflectlite.Value.IsNil" 0) ReflectliteValue.isNil) Tryz.func215 (by kernel_rfl) (by kernel_rfl) (by kernel_rfl) (by kernel_rfl);have h27:=@run_callFunc_extern Tryz.prog 247 _ (ReflectliteType.abiMethod fun t=>do pure (.int .u8 (<- Rtype.kind t))) Tryz.func247 (by kernel_rfl) (by kernel_rfl) (by kernel_rfl) (by kernel_rfl);have h37:=@run_callFunc_extern Tryz.prog 267 _ (ReflectliteType.method ReflectliteType.elem) Tryz.func267 (by kernel_rfl) (by kernel_rfl) (by kernel_rfl) (by kernel_rfl);have h38:=@run_callFunc_extern Tryz.prog 268 _ (ReflectliteType.relation "Implements" ReflectliteType.implements_) Tryz.func268 (by kernel_rfl) (by kernel_rfl) (by kernel_rfl) (by kernel_rfl);have h10:=@run_callFunc_extern Tryz.prog 226 _ ReflectliteType.typeOf Tryz.func226 (by kernel_rfl) (by kernel_rfl) (by kernel_rfl) (by kernel_rfl);have h35:=@run_callFunc_extern Tryz.prog 265 _ (ReflectliteType.relation "AssignableTo" ReflectliteType.assignableTo) Tryz.func265 (by kernel_rfl) (by kernel_rfl) (by kernel_rfl) (by kernel_rfl);have h11:=@run_callFunc_extern Tryz.prog 227 _ (ReflectliteValue.method (ReflectliteValue.valueError "reflectlite.Value.Elem" 0) ReflectliteValue.elem) Tryz.func227 (by kernel_rfl) (by kernel_rfl) (by kernel_rfl) (by kernel_rfl);have h12:=@run_callFunc_extern Tryz.prog 228 _ ReflectliteValue.set Tryz.func228 (by kernel_rfl) (by kernel_rfl) (by kernel_rfl) (by kernel_rfl);have tT:=Tryz.typeOfT;have tN:=Tryz.typeOfN;have mA:=Tryz.methodAssignableTo;have aT:=Tryz.assignT;have aN:=Tryz.assignN;have vT:=Tryz.valueOfT;have f6:=Tryz.valueOfP;have f7:=Tryz.typeP;have mK:=Tryz.methodKind;have mE:=Tryz.methodElem;have mI:=Tryz.methodImplements;have kP:=Tryz.kindP;have kT:=Tryz.kindT;have eP:=Tryz.elemP;have iT:=Tryz.implementsT;have nA:=Tryz.noAsN;have uN:=Tryz.unN;have mU:=Tryz.methodUnwrap
 have htl:tb < w.heap.size:=by
  have:=ht0 0 (by omega);obtain ⟨v,hv⟩:=Option.isSome_iff_exists.1 this;exact zL w ⟨tb,0+0,none⟩ hv
 have hgl:2 < w.heap.size:=zL w _ hg;obtain ⟨W2,hW2⟩:∃ W2,W2=(w.alloc (.cells #[.pointer (some ⟨tb,0,none⟩)] 268)).alloc (.cells #[.pointer (some ⟨3,268,none⟩),.pointer (some ⟨w.heap.size,0,none⟩),.int .u64 150] 293):=⟨_,rfl⟩;have n8:=Tryz.isNilP ⟨w.heap.size,0,none⟩ ⟨tb,0,none⟩ ((w.alloc (.cells #[.pointer (some ⟨tb,0,none⟩)] 268)).alloc (.cells #[.pointer (some ⟨3,268,none⟩),.pointer (some ⟨w.heap.size,0,none⟩),.int .u64 150] 293)) (by simp)
 have hg2:((w.alloc (.cells #[.pointer (some ⟨tb,0,none⟩)] 268)).alloc (.cells #[.pointer (some ⟨3,268,none⟩),.pointer (some ⟨w.heap.size,0,none⟩),.int .u64 150] 293)).cell? ⟨2,0,none⟩=some (.iface 320 (.agg #[.pointer (some ⟨3,238,none⟩)])):=by
  rw [World.cell?_alloc_lt _ _ ⟨2,0,none⟩ (by simp;omega),World.cell?_alloc_lt _ _ ⟨2,0,none⟩ hgl];exact hg
 obtain ⟨W4,hW4⟩:∃ W4,W4=(((w.alloc (.cells #[.pointer (some ⟨tb,0,none⟩)] 268)).alloc (.cells #[.pointer (some ⟨3,268,none⟩),.pointer (some ⟨w.heap.size,0,none⟩),.int .u64 150] 293)).alloc (.cells #[.pointer (some ⟨3,268,none⟩),.pointer (some ⟨w.heap.size,0,none⟩),.int .u64 150] 293)).alloc (.cells #[.int .i64 y.e,.int .i64 y.c,.int .i64 y.p,.int .i64 y.f,.iface 264 (.agg #[.int .i64 x.e,.int .i64 x.c,.int .i64 x.p,.int .i64 x.f])] 266):=⟨_,rfl⟩
 have hb4:Below w.heap.size w W4:=by
  rw [hW4];exact (((zN).alloc (by simp) _).alloc (by simp;omega) _).alloc (by simp;omega) _
 have hz4:W4.heap.size=w.heap.size+1+1+1+1:=by rw [hW4];simp
 have c0:W4.cell? ⟨w.heap.size,0,none⟩=some (.pointer (some ⟨tb,0,none⟩)):=by
  rw [hW4,World.cell?_alloc_lt _ _ ⟨w.heap.size,0,none⟩ (by simp;omega),World.cell?_alloc_lt _ _ ⟨w.heap.size,0,none⟩ (by simp;omega),World.cell?_alloc_lt _ _ ⟨w.heap.size,0,none⟩ (by simp)];simp
 have el:=Tryz.elemVP ⟨w.heap.size,0,none⟩ ⟨tb,0,none⟩ W4 c0
 have bx:∀ j v,#[Value.pointer (some ⟨3,268,none⟩),.pointer (some ⟨w.heap.size,0,none⟩),.int .u64 150][j]? = some v->W4.cell? ⟨w.heap.size+1+1,j,none⟩=some v:=fun j v hj=>by
  rw [hW4,World.cell?_alloc_lt _ _ ⟨w.heap.size+1+1,j,none⟩ (by simp),World.cell?_alloc_at _ _ _ _ (by simp)];exact hj
 have b0:=bx 0 _ rfl;have b1:=bx 1 _ rfl;have b2:=bx 2 _ rfl;have hb5:Below w.heap.size w (W4.alloc (.cells #[.int .i64 x.e,.int .i64 x.c,.int .i64 x.p,.int .i64 x.f] 264)):=hb4.alloc (by omega) _
 have st:=Tryz.setT tb (w.heap.size+1+1+1+1) x (W4.alloc (.cells #[.int .i64 x.e,.int .i64 x.c,.int .i64 x.p,.int .i64 x.f] 264))
  (by rw [<- hz4];exact ⟨by simp,by simp,by simp,by simp⟩)
  (fun j hj=>by rw [hb5.cell (p:=⟨tb,0+j,none⟩) htl];exact ht0 j hj)
  (fun j hj=>by rw [hb5.frozen (p:=⟨tb,0+j,none⟩) htl];exact hf0 j hj)
 have HB:Hid (Below tb w ((W4.alloc (.cells #[.int .i64 x.e,.int .i64 x.c,.int .i64 x.p,.int .i64 x.f] 264)).setCells tb 0 (vLk x))):=QH3 (by omega) _ _ _ (hb5.mono (by omega));have HW4:=(show Hid (_=_) from hW4);clear hW2 hb4 hb5 hW4 bx c0 hg ht0 hf0;go_enter Tryz.func193,Tryz.ntmps193;go_wp2;refine wp_loop_rounds 2 ?_;rw [rounds_succ]
 go_wp2_with (first
  | (go_at_call 255;refine (qHx y _ _).mono ?_;rintro e w' ⟨rfl,rfl⟩)
  | fail)
 rw [<- HW4.out];rw [rounds_succ];go_wp2;go_ret;exact ⟨rfl,HB.out⟩
/-- errors.As at an error of errors.New's make. -/
theorem qJP (q:Addr) (tb:Nat) (w:World) (hg:w.cell? ⟨2,0,none⟩=some (.iface 320 (.agg #[.pointer (some ⟨3,238,none⟩)]))) :
  Calls Tryz.prog 193 #[.iface 338 (.pointer (some q)),.iface 268 (.pointer (some ⟨tb,0,none⟩))] w fun ev w'=>ev = .returned (.bool false)/\Below w.heap.size w w':=by
 have h6:=@run_callFunc_extern Tryz.prog 213 _ (fun args=>ReflectliteValue.unpack (args.getD 0 (.tuple #[]))) Tryz.func213 (by kernel_rfl) (by kernel_rfl) (by kernel_rfl) (by kernel_rfl);have h7:=@run_callFunc_extern Tryz.prog 214 _ (ReflectliteValue.methodAny (ReflectliteValue.valueError "reflectlite.Value.Type" 0) (fun t _ _ _=>ReflectliteType.toType t)) Tryz.func214 (by kernel_rfl) (by kernel_rfl) (by kernel_rfl) (by kernel_rfl);have h8:=@run_callFunc_extern Tryz.prog 215 _ (ReflectliteValue.method (ReflectliteValue.valueError "reflectlite.Value.IsNil" 0) ReflectliteValue.isNil) Tryz.func215 (by kernel_rfl) (by kernel_rfl) (by kernel_rfl) (by kernel_rfl);have h27:=@run_callFunc_extern Tryz.prog 247 _ (ReflectliteType.abiMethod fun t=>do pure (.int .u8 (<- Rtype.kind t))) Tryz.func247 (by kernel_rfl) (by kernel_rfl) (by kernel_rfl) (by kernel_rfl);have h37:=@run_callFunc_extern Tryz.prog 267 _ (ReflectliteType.method ReflectliteType.elem) Tryz.func267 (by kernel_rfl) (by kernel_rfl) (by kernel_rfl) (by kernel_rfl);have h38:=@run_callFunc_extern Tryz.prog 268 _ (ReflectliteType.relation "Implements" ReflectliteType.implements_) Tryz.func268 (by kernel_rfl) (by kernel_rfl) (by kernel_rfl) (by kernel_rfl);have h10:=@run_callFunc_extern Tryz.prog 226 _ ReflectliteType.typeOf Tryz.func226 (by kernel_rfl) (by kernel_rfl) (by kernel_rfl) (by kernel_rfl);have h35:=@run_callFunc_extern Tryz.prog 265 _ (ReflectliteType.relation "AssignableTo" ReflectliteType.assignableTo) Tryz.func265 (by kernel_rfl) (by kernel_rfl) (by kernel_rfl) (by kernel_rfl);have h11:=@run_callFunc_extern Tryz.prog 227 _ (ReflectliteValue.method (ReflectliteValue.valueError "reflectlite.Value.Elem" 0) ReflectliteValue.elem) Tryz.func227 (by kernel_rfl) (by kernel_rfl) (by kernel_rfl) (by kernel_rfl);have h12:=@run_callFunc_extern Tryz.prog 228 _ ReflectliteValue.set Tryz.func228 (by kernel_rfl) (by kernel_rfl) (by kernel_rfl) (by kernel_rfl);have tS:=Tryz.typeOfS;have mA:=Tryz.methodAssignableTo;have aS:=Tryz.assignS;have f6:=Tryz.valueOfP;have f7:=Tryz.typeP;have mK:=Tryz.methodKind;have mE:=Tryz.methodElem;have mI:=Tryz.methodImplements;have kP:=Tryz.kindP;have kT:=Tryz.kindT;have eP:=Tryz.elemP;have iT:=Tryz.implementsT;have nA:=Tryz.noAsS;have nU:=Tryz.noUnS;have nV:=Tryz.noUmS;have hgl:2 < w.heap.size:=zL w _ hg;have n8:=Tryz.isNilP ⟨w.heap.size,0,none⟩ ⟨tb,0,none⟩ ((w.alloc (.cells #[.pointer (some ⟨tb,0,none⟩)] 268)).alloc (.cells #[.pointer (some ⟨3,268,none⟩),.pointer (some ⟨w.heap.size,0,none⟩),.int .u64 150] 293)) (by simp)
 have hg2:((w.alloc (.cells #[.pointer (some ⟨tb,0,none⟩)] 268)).alloc (.cells #[.pointer (some ⟨3,268,none⟩),.pointer (some ⟨w.heap.size,0,none⟩),.int .u64 150] 293)).cell? ⟨2,0,none⟩=some (.iface 320 (.agg #[.pointer (some ⟨3,238,none⟩)])):=by
  rw [World.cell?_alloc_lt _ _ ⟨2,0,none⟩ (by simp;omega),World.cell?_alloc_lt _ _ ⟨2,0,none⟩ hgl];exact hg
 clear hg;go_enter Tryz.func193,Tryz.ntmps193;go_wp2;refine wp_loop_rounds 1 ?_;rw [rounds_succ];go_wp2;go_ret;exact ⟨rfl,((zN).alloc (by simp) _).alloc (by simp;omega) _⟩
end

def qE2 (w:World):Prop:=w.cell? ⟨2,0,none⟩=some (.iface 320 (.agg #[.pointer (some ⟨3,238,none⟩)]))
theorem qE2.below {w w':World} (h:qE2 w) (hb:Below w.heap.size w w'):qE2 w' :=
 (hb.cell (p:=⟨2,0,none⟩) (zL w _ h)).trans h
def qEm (y x:LkI):Value:=.iface 266 (.agg #[.int .i64 y.e,.int .i64 y.c,.int .i64 y.p,.int .i64 y.f,.iface 264 (.agg #[.int .i64 x.e,.int .i64 x.c,.int .i64 x.p,.int .i64 x.f])])
theorem qEN (w:World):Calls Tryz.prog 174 #[.nilIface] w fun e w'=>e = .returned (.int .i64 0)/\Below w.heap.size w w':=by
 go_enter Tryz.func174,Tryz.ntmps174;go_wp2;go_ret;exact ⟨rfl,zN⟩
theorem qBZ (y x:LkI) (w:World) (hg:qE2 w):Calls Tryz.prog 174 #[qEm y x] w fun e w'=>e = .returned (.int .i64 6)/\Below w.heap.size w w':=by
 have HB:Hid (Below w.heap.size w (w.alloc (.cells #[.int .i64 0,.int .i64 0,.int .i64 0,.int .i64 0] 264))):=zN;have HG:Hid (qE2 (w.alloc (.cells #[.int .i64 0,.int .i64 0,.int .i64 0,.int .i64 0] 264))):=hg.below HB.out
 have HC:Hid ((∀ j,j < 4->((w.alloc (.cells #[.int .i64 0,.int .i64 0,.int .i64 0,.int .i64 0] 264)).cell? ⟨w.heap.size,0+j,none⟩).isSome=true)/\∀ j,j < 4->(w.alloc (.cells #[.int .i64 0,.int .i64 0,.int .i64 0,.int .i64 0] 264)).frozen? ⟨w.heap.size,0+j,none⟩=false):=by
  refine ⟨fun j hj=>?_,fun j hj=>by simp [go_sem]⟩;rw [World.cell?_alloc_at _ _ _ _ rfl];simp;omega
 clear hg;unfold qEm;go_enter Tryz.func174,Tryz.ntmps174;go_upto_region 2 with fail
 generalize w.alloc (.cells #[.int .i64 0,.int .i64 0,.int .i64 0,.int .i64 0] 264)=w1 at HB HG HC ⊢
 go_wp2_with fail
 refine (qLJ y x w.heap.size _ HG.out HC.out.1 HC.out.2).mono ?_;rintro e w2 ⟨rfl,hb⟩;have HB2:Hid (Below w.heap.size w w2):=HB.out.trans hb;clear hb;go_wp2;go_ret;exact ⟨rfl,HB2.out⟩
theorem qBa (q:Addr) (w:World) (hg:qE2 w):Calls Tryz.prog 174 #[.iface 338 (.pointer (some q))] w fun e w'=>e = .returned (.int .i64 2)/\Below w.heap.size w w':=by
 have HB:Hid (Below w.heap.size w (w.alloc (.cells #[.int .i64 0,.int .i64 0,.int .i64 0,.int .i64 0] 264))):=zN;have HG:Hid (qE2 (w.alloc (.cells #[.int .i64 0,.int .i64 0,.int .i64 0,.int .i64 0] 264))):=hg.below HB.out;clear hg;go_enter Tryz.func174,Tryz.ntmps174;go_upto_region 2 with fail
 generalize w.alloc (.cells #[.int .i64 0,.int .i64 0,.int .i64 0,.int .i64 0] 264)=w1 at HB HG ⊢
 go_wp2_with fail
 refine (qJP q w.heap.size _ HG.out).mono ?_;rintro e w2 ⟨rfl,hb⟩;have HB2:Hid (Below w.heap.size w w2):=HB.out.trans (hb.mono HB.out.size);clear hb;go_wp2;go_ret;exact ⟨rfl,HB2.out⟩
theorem qEl {w:World} {ad:Addr} {n:Nat} {gs:List LkI} (h:qK8 w (some ad) n gs):∀ j u,(qA3 gs)[j]? = some u->w.cell? (ad.add j)=some u:=by
 by_cases q:0 < n
 ·obtain ⟨b,off,e,_⟩:=h.2 q;cases e;exact QM3 h
 ·have hg:gs=[]:=List.eq_nil_of_length_eq_zero (by have:=h.1;omega);subst hg;intro j u hj;simp [qA3] at hj
theorem qCm (a0:Option Addr) (n cap:Nat) (gs:List LkI) (w:World) (hn:n<=1000) (h:qK8 w a0 n gs) :
  Calls Tryz.prog 190 #[.slice a0 n cap] w (qNK gs w):=by
 have q24:∀ (w:World) (a:Option Addr) (n c n' c':Nat),(binOp .eql 34 (.slice a n c) (.slice none n' c')).run Tryz.prog w = .ok (.bool a.isNone) w:=fun w a n c n' c'=>Lib.run_eql_slice_nil w _ _ a n c n' c' Tryz.underlying34
 cases a0 with
 | none =>
  have hn0:n=0:=by
   by_cases q:0 < n
   ·obtain ⟨_,_,e,_⟩:=h.2 q;cases e
   ·omega
  have hg:gs=[]:=List.eq_nil_of_length_eq_zero (by have:=h.1;omega);subst hn0 hg;clear h;go_enter Tryz.func190,Tryz.ntmps190;go_wp2;go_ret;exact ⟨none,0,rfl,World.ownsRow_nil _ _ _ _,Below.refl _ _⟩
 | some ad =>
  obtain ⟨i0,hi0,hz0,hz1,hz2⟩:=info_parts Tryz.info103;have HN:Hid (∀ j u,(qA3 gs)[j]? = some u->w.cell? (ad.add j)=some u):=qEl h
  have hcell:Hid (∀ j u,(qA3 gs)[j]? = some u->(w.alloc (.cells #[] 103)).cell? (ad.add j)=some u):=fun j u hj=>by
   have h1:=HN.out j u hj;have h2:=zL w _ h1;exact ((Below.refl w.heap.size w).alloc (Nat.le_refl _) (.cells #[] 103)).cell h2 |>.trans h1
  have HL:Hid (gs.length=n):=h.1;clear h;go_enter Tryz.func190,Tryz.ntmps190;go_wp2_with (at_builtin;refine wpList_append_own _ rfl _ _ 34 rfl w.heap.size 103 i0 (.agg #[.int .i64 0,.int .i64 0,.int .i64 0,.int .i64 0]) 4 32 Tryz.underlying34 hi0 hz0 hz1 hz2 rfl (by decide) _ 0 [] rfl (World.ownsRow_made w #[] 0 (Nat.le_refl _) (Nat.zero_le _) (by simp)) ad n cap (qA3 gs) rfl (by rw [qF4,HL.out]) hcell.out (qO4 _) (by unfold maxLen;omega) (by omega) (by simp) ?_)
  intro v' w' hO hG hV
  have hO':qA7 w' w.heap.size v' gs:=by
   unfold qA7;rw [HL.out];simpa using hO
  obtain ⟨a',cap',e'⟩:=hO'.slice;subst e';go_wp2;go_ret;refine ⟨a',cap',rfl,hO',?_⟩;exact QB3 (es:=[]) (World.ownsRow_made w #[] 0 (Nat.le_refl _) (Nat.zero_le _) (by simp)) (zN) hG (by simp)
def qMN (gs ys:List LkI) (w:World) (e:Ending) (w':World):Prop:=Below w.heap.size w w' /\
  ((∃ y x,e = .returned (.tuple #[.slice none 0 0,qEm y x])/\qI6 gs ys=6/\tkL gs ys=[]) \/
   (∃ q:Addr,e = .returned (.tuple #[.slice none 0 0,.iface 338 (.pointer (some q))])/\qI6 gs ys=2/\tkL gs ys=[]) \/
   ∃ (a':Option Addr) (cap':Nat),e = .returned (.tuple #[.slice a' (tkL gs ys).length cap',.nilIface])/\qI6 gs ys=0/\qA7 w' w.heap.size (.slice a' (tkL gs ys).length cap') (tkL gs ys))
theorem qBW (a0:Option Addr) (n cap:Nat) (b:Option Addr) (m cap2:Nat) (gs ys:List LkI) (w:World) (hn:n<=200) (hm:m<=100) (h:qK8 w a0 n gs) (hy:qK8 w b m ys) (hs:SL gs) (ho:∀ x∈gs,okL x=true) (hys:SL ys) (hyo:∀ x∈ys,okL x=true) (hE:qG2 1 w) :
  Calls Tryz.prog 173 #[.slice a0 n cap,.slice b m cap2] w (qMN gs ys w):=by
 have HG:Hid (qK8 w a0 n gs):=h;have HY:Hid (qK8 w b m ys):=hy;have HYS:Hid (SL ys):=hys;have HYO:Hid (∀ x∈ys,okL x=true):=hyo;have HZ:Hid (gs.length=n):=h.1;have HM:Hid (ys.length=m):=hy.1;have HE:Hid (qG2 1 w):=hE;have HS0:Hid (TkS gs ys 0 gs):=TkS.zero ys hs ho;have hm':(m:Int)<=100:=by omega
 clear h hy hs ho hys hyo hE;go_enter Tryz.func173,Tryz.ntmps173;go_wp2_with fail
 refine (qCm a0 n cap gs _ (by omega) HG.out).mono ?_;rintro e w7 ⟨a7,cap7,rfl,ho7,hb7⟩;have T7:Hid (qA7 w7 w.heap.size (.slice a7 gs.length cap7) gs/\Below w.heap.size w w7):=⟨ho7,hb7⟩;clear ho7 hb7;go_wp2_with fail
 go_loopw [6,15] (fun s i wr=>∃ (k:Nat) (all:List LkI) (a:Option Addr) (cp:Nat),k<=m/\s = .slice a all.length cp/\i = .int .i64 (k:Int)/\Hid (TkS gs ys k all/\qA7 wr w.heap.size (.slice a all.length cp) all/\Below w.heap.size w wr)) (fun _ i _=>m - (intOf i).toNat)
 case atStart=>exact ⟨0,gs,a7,cap7,Nat.zero_le _,rfl,rfl,HS0.out,T7.out⟩
 case round =>
  obtain ⟨k,all,a,cp,hk,rfl,rfl,HK⟩:=hrel;have hlen:all.length<=300:=by have:=HK.out.1.len;have:=HZ.out;omega
  by_cases hlt:k < m
  ·have hlt':(k:Int) < (m:Int):=by omega
   obtain ⟨b1,o1,y,e1,hy,hr,hb1⟩:=HY.out.at hlt
   subst e1;obtain ⟨c0,c1,c2,c3⟩:=hr.below HK.out.2.2 hb1;have HYK:Hid (ys[k]? = some y):=hy;have A1:Below wr.heap.size wr (wr.alloc (.cells #[.int .i64 y.e,.int .i64 y.c,.int .i64 y.p,.int .i64 y.f] 103)):=zN;have T1:Hid (qA7 (wr.alloc (.cells #[.int .i64 y.e,.int .i64 y.c,.int .i64 y.p,.int .i64 y.f] 103)) w.heap.size (.slice a all.length cp) all/\Below w.heap.size w (wr.alloc (.cells #[.int .i64 y.e,.int .i64 y.c,.int .i64 y.p,.int .i64 y.f] 103))):=⟨HK.out.2.1.below A1,HK.out.2.2.trans (A1.mono HK.out.2.2.size)⟩;have Y1:Hid (QE9 (wr.alloc (.cells #[.int .i64 y.e,.int .i64 y.c,.int .i64 y.p,.int .i64 y.f] 103)) wr.heap.size 0 y):=by simp [Hid,QE9]
   have hzb:wr.heap.size < (wr.alloc (.cells #[.int .i64 y.e,.int .i64 y.c,.int .i64 y.p,.int .i64 y.f] 103)).heap.size:=by simp
   clear hy hr A1;go_upto_region 5 with fail
   clear c0 c1 c2 c3;generalize wr.alloc (.cells #[.int .i64 y.e,.int .i64 y.c,.int .i64 y.p,.int .i64 y.f] 103)=w1 at T1 Y1 hzb ⊢
   obtain ⟨y0,y1,y2,y3⟩:=Y1.out;simp only [Nat.zero_add] at y0 y1 y2 y3;go_wp2_with fail
   refine (qIL a all.length cp all y _ (T1.out.1.view.isIn rfl) HK.out.1.sl (by omega)).mono ?_;rintro e w2 ⟨i,fb,rfl,hcut,hfb,hb2⟩;have T2:Hid (qA7 w2 w.heap.size (.slice a all.length cp) all/\Below w.heap.size w w2):=⟨T1.out.1.below hb2,T1.out.2.trans (hb2.mono T1.out.2.size)⟩;have Y2:Hid (QE9 w2 wr.heap.size 0 y):=Y1.out.below hb2 hzb;have hzb2:wr.heap.size < w2.heap.size:=by have:=hb2.size;omega
   have HCU:Hid (QQ2 all y i):=hcut;have hcase:=qCX HK.out.1.sl HK.out.1.ok hcut hfb;have HSM:Hid (qE8 all y.e y.c y.p=qE8 gs y.e y.c y.p):=HK.out.1.same k y (Nat.le_refl _) HYK.out
   have hin:i<=all.length:=by
    have:=qCl hcut;rw [<- this];unfold qBH;exact (List.takeWhile_sublist _).length_le
   clear hb2 T1 Y1 hzb y0 y1 y2 y3 hcut hfb;obtain ⟨y0,y1,y2,y3⟩:=Y2.out;simp only [Nat.zero_add] at y0 y1 y2 y3;rcases hcase with ⟨rfl,hf⟩ | ⟨rfl,x,hx,hf,hf0⟩
   ·have HN:Hid (TkS gs ys (k+1) (QA6 all y)):=HK.out.1.put HYS.out HYK.out (HYO.out y (List.mem_of_getElem? HYK.out)) (HSM.out.symm.trans hf)
    have HPL:Hid (all.take i++y::all.drop i=QA6 all y):=by
     show _=_
     rw [QA6,qCl HCU.out]
    have A2:Below w2.heap.size w2 (w2.alloc (.cells #[.int .i64 y.e,.int .i64 y.c,.int .i64 y.p,.int .i64 y.f] 103)):=zN;have T3:Hid (qA7 (w2.alloc (.cells #[.int .i64 y.e,.int .i64 y.c,.int .i64 y.p,.int .i64 y.f] 103)) w.heap.size (.slice a all.length cp) all/\Below w.heap.size w (w2.alloc (.cells #[.int .i64 y.e,.int .i64 y.c,.int .i64 y.p,.int .i64 y.f] 103))):=⟨T2.out.1.below A2,T2.out.2.trans (A2.mono T2.out.2.size)⟩;have Y3:Hid (QE9 (w2.alloc (.cells #[.int .i64 y.e,.int .i64 y.c,.int .i64 y.p,.int .i64 y.f] 103)) w2.heap.size 0 y):=by simp [Hid,QE9]
    have S3:Hid ((w2.alloc (.cells #[.int .i64 y.e,.int .i64 y.c,.int .i64 y.p,.int .i64 y.f] 103)).shape? w2.heap.size=some (103,4)):=by
     show World.shape? _ _=_
     unfold World.shape?;rw [heap_alloc_new];rfl
    have F3:Hid (∀ j,(w2.alloc (.cells #[.int .i64 y.e,.int .i64 y.c,.int .i64 y.p,.int .i64 y.f] 103)).frozen? ⟨w2.heap.size,j,none⟩=false):=fun j=>World.frozen?_alloc_at _ _ _ j rfl
    have N3:Hid (a≠some ⟨w2.heap.size,0,none⟩):=fun e=>by
     have:=(qY4 T2.out.1 w2.heap.size (by rw [e];rfl)).2;omega
    clear hf A2;go_wp2_with fail
    generalize w2.alloc (.cells #[.int .i64 y.e,.int .i64 y.c,.int .i64 y.p,.int .i64 y.f] 103)=w3 at T3 Y3 S3 F3 ⊢
    refine (qFD w.heap.size a all.length cp i w2.heap.size all y _ rfl hin (by omega) T3.out.2.size T3.out.1 Y3.out _ S3.out F3.out N3.out).mono ?_;rintro e w4 ⟨g',cp',rfl,ho4,hg4⟩;rw [HPL.out] at ho4 ⊢
    have HP:Hid (qA7 w4 w.heap.size (.slice (some ⟨g',0,none⟩) (QA6 all y).length cp') (QA6 all y)/\Below w.heap.size w w4):=⟨ho4,QB3 T3.out.1 T3.out.2 hg4 T3.out.2.size⟩;clear ho4 hg4;go_wp2_with fail
    exact ⟨⟨k+1,QA6 all y,some ⟨g',0,none⟩,cp',by omega,rfl,by go_num,HN.out,HP.out⟩,by simp [intOf];omega⟩
   ·have hil:i < all.length:=by
     by_cases q:i < all.length
     ·exact q
     ·rw [List.getElem?_eq_none (by omega)] at hx;cases hx
    obtain ⟨g,e1,hxat⟩:=T2.out.1.view i x hx;subst e1;obtain ⟨x0,x1,x2,x3⟩:=hxat;have hlt2:(i:Int) < (all.length:Int):=by omega
    have hfg:Hid (qE8 gs y.e y.c y.p=x.f):=HSM.out.symm.trans hf;have hf0':Hid (x.f≠0):=hf0;clear hf hf0 hx;by_cases f1:x.f=y.f
    ·have b2':(x.f != y.f)=false:=by simp [f1]
     have HN:Hid (TkS gs ys (k+1) all):=HK.out.1.stay HYK.out (by rw [hfg.out];exact hf0'.out) (by rw [hfg.out];exact f1);clear f1;go_wp2_with fail
     go_quiet (fail)
     go_wp2_with fail
     exact ⟨⟨k+1,all,some ⟨g,0,none⟩,cp,by omega,rfl,by go_num,HN.out,T2.out.1.below (below_drewN (Below.refl _ _) _),below_drewN T2.out.2 _⟩,by simp [intOf];omega⟩
    ·have b2':(x.f != y.f)=true:=by simpa using f1
     have HN:Hid (qI6 gs ys=6/\tkL gs ys=[]):=by
      have h1:qI8 gs ys (k+1)=none:=by
       rw [qI7 HK.out.1.tk HYK.out,qO0,if_neg (by rw [hfg.out];exact hf0'.out),if_neg (by rw [hfg.out];exact f1)]
      exact QC5 h1 (by rw [HM.out];omega)
     clear f1;go_wp2_with fail
     go_quiet (fail)
     go_wp2_with fail
     go_quiet (fail)
     go_wp2_with fail
     refine bodyPost_ret (v:=.tuple #[.slice none 0 0,qEm y x]) (by simp [results,Tryz.results173,go_sem,qEm]) rfl ⟨?_,.inl ⟨y,x,rfl,HN.out.1,HN.out.2⟩⟩;first | exact below_drewN (below_drewN T2.out.2 _) _ | exact below_drewN T2.out.2 _
  ·have hkm:k=m:=by omega
   subst hkm;have htk:qI8 gs ys ys.length=some all:=by rw [HM.out];exact HK.out.1.tk
   obtain ⟨q,hq⟩:=HE.out;have hq1:=(HK.out.2.2.cell (p:=⟨1,0,none⟩) (zL w _ hq)).trans hq;clear hq;by_cases h200:200 < all.length
   ·have hl2:(200:Int) < (all.length:Int):=by omega
    have HN:Hid (qI6 gs ys=2/\tkL gs ys=[]):=QV1 htk h200;clear htk;go_wp2_with fail
    go_quiet (fail)
    go_wp2_with fail
    refine bodyPost_ret (v:=.tuple #[.slice none 0 0,.iface 338 (.pointer (some q))]) (by simp [results,Tryz.results173,go_sem]) rfl ⟨?_,.inr (.inl ⟨q,rfl,HN.out.1,HN.out.2⟩)⟩;exact below_drewN HK.out.2.2 _
   ·have hl2:(all.length:Int)<=200:=by omega
    have HN:Hid (qI6 gs ys=0/\tkL gs ys=all):=QF1 htk h200;clear htk;go_wp2_with fail
    refine bodyPost_ret (v:=.tuple #[.slice a all.length cp,.nilIface]) (by simp [results,Tryz.results173,go_sem]) rfl ⟨HK.out.2.2,.inr (.inr ⟨a,cp,?_,HN.out.1,?_⟩)⟩
    ·rw [HN.out.2]
    ·rw [HN.out.2];exact HK.out.2.1

theorem qAg (a:Option Addr) (n cap:Nat) (b:Option Addr) (m cap2:Nat) (gs:List LkI) (e f s c:Int) (w:World) (h:qK8 w a n gs) (hc:qJ0 gs=c) (h0:c≠0):qH6 143 #[.slice a n cap,.slice b m cap2,.int .i64 e,.int .i64 f,.int .i64 s] c [] w:=by
 have B0:Below w.heap.size w (w.alloc (.cells #[.int .i64 0,.slice none 0 0] 135)):=zN;have HF:Hid (Calls Tryz.prog 171 #[.slice a n cap] (w.alloc (.cells #[.int .i64 0,.slice none 0 0] 135)) fun e w'=>e = .returned (.int .i64 c)/\Below (w.heap.size+1) (w.alloc (.cells #[.int .i64 0,.slice none 0 0] 135)) w'):=(qX2 a n cap gs _ (h.below B0)).mono fun e w' hh=>⟨by rw [hh.1,hc],by have:=hh.2;rw [World.size_alloc] at this;exact this⟩
 have hcb:(c != 0)=true:=by simpa using h0
 clear h hc h0 B0;unfold qH6;go_enter Tryz.func143,Tryz.ntmps143;go_wp2_with fail
 refine HF.out.mono ?_;rintro r w1 ⟨rfl,hb1⟩;have d0:w1.cell? ⟨w.heap.size,0,none⟩=some (.int .i64 0):=(hb1.cell (p:=⟨w.heap.size,0,none⟩) (by simp)).trans (by simp);have d1:w1.cell? ⟨w.heap.size,1,none⟩=some (.slice none 0 0):=(hb1.cell (p:=⟨w.heap.size,1,none⟩) (by simp)).trans (by simp);have g0:w1.frozen? ⟨w.heap.size,0,none⟩=false:=(hb1.frozen (p:=⟨w.heap.size,0,none⟩) (by simp)).trans (by simp [go_sem]);have g1:w1.frozen? ⟨w.heap.size,1,none⟩=false:=(hb1.frozen (p:=⟨w.heap.size,1,none⟩) (by simp)).trans (by simp [go_sem]);have B1:Below w.heap.size w w1:=(zN).trans (hb1.mono (by omega));clear hb1;go_wp2_with fail
 refine bodyPost_ret (v:=.agg #[.int .i64 c,.slice none 0 0]) (by simp [results,Tryz.results143,go_sem,d0,d1]) rfl ⟨none,0,rfl,World.ownsRow_nil _ _ _ _,?_⟩;exact (B1.setCell (Nat.le_refl _) _).setCell (Nat.le_refl _) _
structure TB0 (w w1:World):Prop where
 c0:w1.cell? ⟨w.heap.size,0,none⟩=some (.int .i64 0)
 c1:w1.cell? ⟨w.heap.size,1,none⟩=some (.slice none 0 0)
 f0:w1.frozen? ⟨w.heap.size,0,none⟩=false
 f1:w1.frozen? ⟨w.heap.size,1,none⟩=false
 bel:Below w.heap.size w w1
 lt:w.heap.size < w1.heap.size
theorem TB0.below {w w1 w2:World} (h:TB0 w w1) (hb:Below w1.heap.size w1 w2):TB0 w w2 :=
 ⟨(hb.cell (p:=⟨w.heap.size,0,none⟩) h.lt).trans h.c0,(hb.cell (p:=⟨w.heap.size,1,none⟩) h.lt).trans h.c1,(hb.frozen (p:=⟨w.heap.size,0,none⟩) h.lt).trans h.f0,(hb.frozen (p:=⟨w.heap.size,1,none⟩) h.lt).trans h.f1,h.bel.trans (hb.mono (by have:=h.lt;omega)),by have:=hb.size;have:=h.lt;omega⟩
theorem qCS (a0:Option Addr) (n cap:Nat) (b:Option Addr) (m cap2:Nat) (gs:List LkI) (zs:List Int) (e f s:Int) (w:World) (h:qK8 w a0 n gs) (hy:qC9 w b m zs) (hc:qJ0 gs=0) (hE:qG2 1 w) (hH:qE2 w) :
  qH6 143 #[.slice a0 n cap,.slice b m cap2,.int .i64 e,.int .i64 f,.int .i64 s] (qE4 gs zs e f s) (qL5 gs zs e f s) w:=by
 obtain ⟨W,hW⟩:∃ W,W=w.alloc (.cells #[.int .i64 0,.slice none 0 0] 135):=⟨_,rfl⟩;have HW:Hid (W=w.alloc (.cells #[.int .i64 0,.slice none 0 0] 135)):=hW
 have T0:Hid (TB0 w W):=by
  show TB0 w W
  rw [hW];exact ⟨by go_cell,by go_cell,by simp [go_sem],by simp [go_sem],zN,by simp⟩
 have HG:Hid (qK8 w a0 n gs):=h;have HI:Hid (qC9 w b m zs):=hy;have HE:Hid (qG2 1 w):=hE;have HH:Hid (qE2 w):=hH;have hok:=QF7 hc;have hn:n<=200:=by have:=hok.1;have:=h.1;omega
 have hCT:qE4 gs zs e f s=if qE5 zs e f s=0 then qI6 gs (qB4 zs e f s zs.length) else qE5 zs e f s:=by unfold qE4;rw [if_pos hc]
 have hLT:qL5 gs zs e f s=if qE5 zs e f s=0 then tkL gs (qB4 zs e f s zs.length) else []:=by
  unfold qL5;by_cases q:qE5 zs e f s=0
  ·rw [if_pos ⟨hc,q⟩,if_pos q]
  ·rw [if_neg (fun r=>q r.2),if_neg q]
 have hzm:zs.length=m:=hy.1;have inBelow:∀ w1,Below w.heap.size w w1->qK8 w1 a0 n gs/\qC9 w1 b m zs/\qG2 1 w1/\qE2 w1:=fun w1 q=>⟨HG.out.below q,HI.out.below q,HE.out.below q,HH.out.below q⟩
 have HIN:Hid (∀ w1,Below w.heap.size w w1->qK8 w1 a0 n gs/\qC9 w1 b m zs/\qG2 1 w1/\qE2 w1):=inBelow;have HLF:Hid (Calls Tryz.prog 171 #[.slice a0 n cap] W fun e w'=>e = .returned (.int .i64 0)/\Below W.heap.size W w'):=(qX2 _ n cap gs W (inBelow W T0.out.bel).1).mono fun e w' hh=>⟨by rw [hh.1,hc],hh.2⟩
 clear h hy hW hE hH inBelow HG HI HE HH;by_cases hd:qE5 zs e f s=0
 ·rw [hCT,hLT,if_pos hd,if_pos hd];obtain ⟨u1,u2⟩:=QW4 hd;have HN:Hid (∀ w2:World,qC9 w2 b m zs->qBR 172 b m cap2 e f s 0 (qB4 zs e f s m) w2):=fun w2 q=>qAi b m cap2 zs e f s w2 q hd
  have hm4:m<=4:=by rw [<- hzm];exact (qFR (QM5 hd).1).1
  rw [hzm] at u1 u2 ⊢
  have hlen:(qB4 zs e f s m).length<=100:=by have:=qV0 zs e f s m;omega
  generalize qB4 zs e f s m=ys at HN u1 u2 hlen ⊢
  have HT:Hid (∀ (a1:Option Addr) (cc:Nat) (w2:World),qK8 w2 a0 n gs->qK8 w2 a1 ys.length ys->qG2 1 w2->Calls Tryz.prog 173 #[.slice a0 n cap,.slice a1 ys.length cc] w2 (qMN gs ys w2)):=fun a1 cc w2 q1 q2 q3=>qBW a0 n cap a1 ys.length cc gs ys w2 hn hlen q1 q2 hok.2.1 hok.2.2 u1 u2 q3
  obtain ⟨cT,hcT⟩:∃ c,qI6 gs ys=c:=⟨_,rfl⟩;obtain ⟨L,hL⟩:∃ L,tkL gs ys=L:=⟨_,rfl⟩;rw [hcT,hL];have HCT:Hid (qI6 gs ys=cT):=hcT;have HLT:Hid (tkL gs ys=L):=hL;clear hCT hLT hd hzm u1 u2 hok hc hcT hL;unfold qH6;go_enter Tryz.func143,Tryz.ntmps143;go_upto_region 1 with fail
  rw [<- HW.out];go_wp2_with fail
  refine HLF.out.mono ?_;rintro r w1 ⟨rfl,hb1⟩;have T1:Hid (TB0 w w1):=T0.out.below hb1;clear hb1;go_wp2_with fail
  refine (HN.out _ (HIN.out _ T1.out.bel).2.1).mono ?_;rintro r w2 ⟨a1,cap1,rfl,hown2,hb2⟩;have A3:Below w2.heap.size w2 (w2.alloc (.cells #[.int .i64 0,.slice a1 ys.length cap1] 135)):=zN;have T3:Hid (TB0 w (w2.alloc (.cells #[.int .i64 0,.slice a1 ys.length cap1] 135))):=(T1.out.below hb2).below A3;have V3:Hid (qK8 (w2.alloc (.cells #[.int .i64 0,.slice a1 ys.length cap1] 135)) a1 ys.length ys):=(hown2.view.below A3).isIn rfl;have X3:Hid (qBU (w2.alloc (.cells #[.int .i64 0,.slice a1 ys.length cap1] 135)) w2.heap.size (.int .i64 0) (.slice a1 ys.length cap1)):=qBU.new _ _ _ _;clear hown2 hb2 A3 T1;go_upto_region 5 with fail
  generalize w2.alloc (.cells #[.int .i64 0,.slice a1 ys.length cap1] 135)=w3 at T3 V3 X3 ⊢
  obtain ⟨x0,x1⟩:=X3.out;go_wp2_with fail
  obtain ⟨i1,i2,i3,i4⟩:=HIN.out _ T3.out.bel;refine (HT.out a1 cap1 _ i1 V3.out i3).mono ?_;rintro r w4 ⟨hb4,hr⟩;have T4:Hid (TB0 w w4):=T3.out.below hb4;have hsz:Hid (w.heap.size < w3.heap.size):=T3.out.lt;clear hb4 x0 x1 X3 V3 T3 i1 i2 i3 i4;rcases hr with ⟨y,x,rfl,hc6,hL6⟩ | ⟨q,rfl,hc6,hL6⟩ | ⟨a',cap',rfl,hc6,hown⟩
  ·have HN2:Hid (cT=6/\L=[]):=⟨HCT.out.symm.trans hc6,HLT.out.symm.trans hL6⟩;clear hc6 hL6;unfold qEm;go_wp2_with fail
   refine (qBZ y x _ (HIN.out _ T4.out.bel).2.2.2).mono ?_;rintro r w5 ⟨rfl,hb5⟩;obtain ⟨d0,d1,g0,g1,B5,_⟩:=T4.out.below hb5;clear hb5;go_wp2_with fail
   obtain ⟨hc6,hL6⟩:=HN2.out;rw [hc6,hL6];refine bodyPost_ret (v:=.agg #[.int .i64 6,.slice none 0 0]) (by simp [results,Tryz.results143,go_sem,d0,d1]) rfl ⟨none,0,rfl,World.ownsRow_nil _ _ _ _,?_⟩;exact (B5.setCell (Nat.le_refl _) _).setCell (Nat.le_refl _) _
  ·have HN2:Hid (cT=2/\L=[]):=⟨HCT.out.symm.trans hc6,HLT.out.symm.trans hL6⟩;clear hc6 hL6;go_wp2_with fail
   refine (qBa q _ (HIN.out _ T4.out.bel).2.2.2).mono ?_;rintro r w5 ⟨rfl,hb5⟩;obtain ⟨d0,d1,g0,g1,B5,_⟩:=T4.out.below hb5;clear hb5;go_wp2_with fail
   obtain ⟨hc6,hL6⟩:=HN2.out;rw [hc6,hL6];refine bodyPost_ret (v:=.agg #[.int .i64 2,.slice none 0 0]) (by simp [results,Tryz.results143,go_sem,d0,d1]) rfl ⟨none,0,rfl,World.ownsRow_nil _ _ _ _,?_⟩;exact (B5.setCell (Nat.le_refl _) _).setCell (Nat.le_refl _) _
  ·have HN2:Hid (cT=0):=HCT.out.symm.trans hc6;rw [HLT.out] at hown ⊢
   have HO:Hid (qA7 w4 w3.heap.size (.slice a' L.length cap') L):=hown;clear hc6 hown HT;go_wp2_with fail
   refine (qEN _).mono ?_;rintro r w5 ⟨rfl,hb5⟩;have HO5:Hid (qA7 w5 w3.heap.size (.slice a' L.length cap') L):=HO.out.below hb5;obtain ⟨d0,d1,g0,g1,B5,_⟩:=T4.out.below hb5;clear hb5;go_wp2_with fail
   rw [HN2.out];refine bodyPost_ret (v:=.agg #[.int .i64 0,.slice a' L.length cap']) (by simp [results,Tryz.results143,go_sem,d0,d1]) rfl ⟨a',cap',rfl,?_,?_⟩
   ·exact qB0 (QT0 HO5.out (qW8 _ _ _ _) hsz.out) (Nat.le_of_lt hsz.out)
   ·exact (B5.setCell (Nat.le_refl _) _).setCell (Nat.le_refl _) _
 ·rw [hCT,hLT,if_neg hd,if_neg hd];obtain ⟨c,hc'⟩:∃ c,qE5 zs e f s=c:=⟨_,rfl⟩;rw [hc'] at hd ⊢
  have HN:Hid (∀ w2:World,qC9 w2 b m zs->qBR 172 b m cap2 e f s c [] w2):=fun w2 q=>QX4 b m cap2 zs e f s c w2 q hc' hd
  have hcb:(c != 0)=true:=by simpa using hd
  clear hCT hLT hd hzm hok hc hc';unfold qH6;go_enter Tryz.func143,Tryz.ntmps143;go_upto_region 1 with fail
  rw [<- HW.out];go_wp2_with fail
  refine HLF.out.mono ?_;rintro r w1 ⟨rfl,hb1⟩;have T1:Hid (TB0 w w1):=T0.out.below hb1;clear hb1;go_wp2_with fail
  refine (HN.out _ (HIN.out _ T1.out.bel).2.1).mono ?_;rintro r w2 ⟨a1,cap1,rfl,hown2,hb2⟩;have A3:Below w2.heap.size w2 (w2.alloc (.cells #[.int .i64 c,.slice a1 0 cap1] 135)):=zN;have T3:Hid (TB0 w (w2.alloc (.cells #[.int .i64 c,.slice a1 0 cap1] 135))):=(T1.out.below hb2).below A3;have O3:Hid (qA7 (w2.alloc (.cells #[.int .i64 c,.slice a1 0 cap1] 135)) w1.heap.size (.slice a1 0 cap1) []):=qA7.below hown2 A3;have hsz:Hid (w.heap.size < w1.heap.size):=T1.out.lt;have X3:Hid (qBU (w2.alloc (.cells #[.int .i64 c,.slice a1 0 cap1] 135)) w2.heap.size (.int .i64 c) (.slice a1 0 cap1)):=qBU.new _ _ _ _;clear hown2 hb2 A3 T1;go_upto_region 5 with fail
  generalize w2.alloc (.cells #[.int .i64 c,.slice a1 0 cap1] 135)=w3 at T3 O3 X3 ⊢
  obtain ⟨x0,x1⟩:=X3.out;obtain ⟨d0,d1,g0,g1,B5,_⟩:=T3.out;go_wp2_with fail
  refine bodyPost_ret (v:=.agg #[.int .i64 c,.slice a1 0 cap1]) (by simp [results,Tryz.results143,go_sem,d0,d1]) rfl ⟨a1,cap1,rfl,?_,?_⟩
  ·exact qB0 (QT0 O3.out (qW8 _ _ _ _) hsz.out) (Nat.le_of_lt hsz.out)
  ·exact (B5.setCell (Nat.le_refl _) _).setCell (Nat.le_refl _) _

theorem qAf (B:Nat) (a:Option Addr) (cap:Nat) (b:Option Addr) (m cap2:Nat) (gs:List LkI) (zs:List Int) (e f s:Int) (w:World) (ho:qA7 w B (.slice a gs.length cap) gs) (hy:qC9 w b m zs) (hE:qG2 1 w) (hH:qE2 w) :
  qH6 143 #[.slice a gs.length cap,.slice b m cap2,.int .i64 e,.int .i64 f,.int .i64 s] (qE4 gs zs e f s) (qL5 gs zs e f s) w:=by
 by_cases hc:qJ0 gs=0
 ·exact qCS a gs.length cap b m cap2 gs zs e f s w (ho.view.isIn rfl) hy hc hE hH
 ·have h1:qE4 gs zs e f s=qJ0 gs:=by unfold qE4;rw [if_neg hc]
  have h2:qL5 gs zs e f s=[]:=by unfold qL5;rw [if_neg (fun q=>hc q.1)]
  rw [h1,h2];exact qAg a gs.length cap b m cap2 gs e f s _ w (ho.view.isIn rfl) rfl hc
