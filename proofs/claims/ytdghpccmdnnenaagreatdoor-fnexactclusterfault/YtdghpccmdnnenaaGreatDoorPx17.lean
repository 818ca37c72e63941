/- Contracts. -/
import Derived.Test.YtdghpccmdnnenaaGreatDoorPx14
namespace Go.Proofs.YtdghpccmdnnenaaGreatDoor
set_option maxRecDepth 100000
set_option maxHeartbeats 8000000
open Go.RowKit Go.Proofs.Tryz
set_option linter.unusedVariables false
set_option linter.unusedSimpArgs false
section
open Go.RowKit Go.Extern.Stop Go.Stop Go.Extern
theorem Tryz.noAsN(v:Value)(xT:TypeId)(w:World):(Instr.typeAssert (.iface 375 v) xT 415 true).run prog w=.ok (.tuple #[.nilIface,.bool false]) w:=run_typeAssert_lacksB underlying415 (by kernel_rfl) (by kernel_rfl) v xT w
theorem Tryz.noAsS(v:Value)(xT:TypeId)(w:World):(Instr.typeAssert (.iface 427 v) xT 415 true).run prog w=.ok (.tuple #[.nilIface,.bool false]) w:=run_typeAssert_lacksB underlying415 (by kernel_rfl) (by kernel_rfl) v xT w
theorem Tryz.unN(v:Value)(xT:TypeId)(w:World):(Instr.typeAssert (.iface 375 v) xT 418 true).run prog w=.ok (.tuple #[.iface 375 v,.bool true]) w:=run_typeAssert_hasB underlying418 (by kernel_rfl) v xT w
theorem Tryz.noUnS(v:Value)(xT:TypeId)(w:World):(Instr.typeAssert (.iface 427 v) xT 418 true).run prog w=.ok (.tuple #[.nilIface,.bool false]) w:=run_typeAssert_lacksB underlying418 (by kernel_rfl) (by kernel_rfl) v xT w
theorem Tryz.noUmS(v:Value)(xT:TypeId)(w:World):(Instr.typeAssert (.iface 427 v) xT 420 true).run prog w=.ok (.tuple #[.nilIface,.bool false]) w:=run_typeAssert_lacksB underlying420 (by kernel_rfl) (by kernel_rfl) v xT w
theorem Tryz.methodUnwrap (a b c d e:Value) (w:World):(Go.method 562 375 (.agg #[a,b,c,d,e]) "Unwrap").run prog w=.ok (358,.agg #[a,b,c,d,e]) w:=by kernel_rfl
theorem qJS(y:LkI)(v:Value)(w:World):CP 358 #[.agg #[iv y.e,iv y.c,iv y.p,iv y.f,.iface 373 v]] w fun e w'=>e=.returned (.iface 373 v)/\w'=w.alloc (.cells #[iv y.e,iv y.c,iv y.p,iv y.f,.iface 373 v] 375):=by
 go_enter func358,ntmps358;go_wp2;go_ret;exact⟨rfl,rfl⟩
theorem QK3{B b:Nat}{a:World}(hb:B<=b):∀(vs:List Value) (o:Nat) (w:World),Below B a w->Below B a (w.setCells b o vs)
 | [],_,_,h=>h
 | v::r,o,w,h=>QK3 hb r (o+1) _ (h.setCell (p:=⟨b,o,none⟩) hb v)
/-- errors.As at a needError that wraps a takenError. -/
theorem qNK (y x:LkI) (tb:Nat) (w:World) (hg:w.cell? ⟨1,0,none⟩=some (.iface 410 (.agg #[.pointer (some ⟨2,358,none⟩)]))) (ht0:∀j,j<4->(w.cell? ⟨tb,0+j,none⟩).isSome=true) (hf0:∀j,j<4->w.frozen? ⟨tb,0+j,none⟩=false) :
  CP 301 #[.iface 375 (.agg #[iv y.e,iv y.c,iv y.p,iv y.f,.iface 373 (.agg #[iv x.e,iv x.c,iv x.p,iv x.f])]),.iface 377 (.pointer (some ⟨tb,0,none⟩))] w fun ev w'=>ev=.returned (.bool true)/\Below tb w w':=by
 have h6:=@jK prog 316 _ (fun args=>ReflectliteValue.unpack (args.getD 0 (.tuple #[]))) func316 (by kernel_rfl) (by kernel_rfl) (by kernel_rfl) (by kernel_rfl);have h7:=@jK prog 317 _ (ReflectliteValue.methodAny (ReflectliteValue.valueError "reflectlite.Value.Type" 0) (fun t _ _ _=>ReflectliteType.toType t)) func317 (by kernel_rfl) (by kernel_rfl) (by kernel_rfl) (by kernel_rfl);have h8:=@jK prog 318 _ (ReflectliteValue.method (ReflectliteValue.valueError "reflectlite.Value.IsNil" 0) ReflectliteValue.isNil) func318 (by kernel_rfl) (by kernel_rfl) (by kernel_rfl) (by kernel_rfl);have h27:=@jK prog 345 _ (ReflectliteType.abiMethod fun t=>do pure (.int .u8 (<- Rtype.kind t))) func345 (by kernel_rfl) (by kernel_rfl) (by kernel_rfl) (by kernel_rfl);have h37:=@jK prog 365 _ (ReflectliteType.method ReflectliteType.elem) func365 (by kernel_rfl) (by kernel_rfl) (by kernel_rfl) (by kernel_rfl);have h38:=@jK prog 366 _ (ReflectliteType.relation "Implements" ReflectliteType.implements_) func366 (by kernel_rfl) (by kernel_rfl) (by kernel_rfl) (by kernel_rfl);have h10:=@jK prog 326 _ ReflectliteType.typeOf func326 (by kernel_rfl) (by kernel_rfl) (by kernel_rfl) (by kernel_rfl);have h35:=@jK prog 363 _ (ReflectliteType.relation "AssignableTo" ReflectliteType.assignableTo) func363 (by kernel_rfl) (by kernel_rfl) (by kernel_rfl) (by kernel_rfl);have h11:=@jK prog 327 _ (ReflectliteValue.method (ReflectliteValue.valueError "reflectlite.Value.Elem" 0) ReflectliteValue.elem) func327 (by kernel_rfl) (by kernel_rfl) (by kernel_rfl) (by kernel_rfl);have h12:=@jK prog 328 _ ReflectliteValue.set func328 (by kernel_rfl) (by kernel_rfl) (by kernel_rfl) (by kernel_rfl);have tT:=Tryz.typeOfT;have tN:=Tryz.typeOfN;have mA:=Tryz.methodAssignableTo;have aT:=Tryz.assignT;have aN:=Tryz.assignN;have vT:=Tryz.valueOfT;have f6:=Tryz.valueOfP;have f7:=Tryz.typeP;have mK:=Tryz.methodKind;have mE:=Tryz.methodElem;have mI:=Tryz.methodImplements;have kP:=Tryz.kindP;have kT:=Tryz.kindT;have eP:=Tryz.elemP;have iT:=Tryz.implementsT;have nA:=Tryz.noAsN;have uN:=Tryz.unN;have mU:=Tryz.methodUnwrap
 have htl:tb<w.heap.size:=by
  have:=ht0 0 (by omega);obtain⟨v,hv⟩:=Option.isSome_iff_exists.1 this;exact zL w ⟨tb,0+0,none⟩ hv
 have hgl:1<w.heap.size:=zL w _ hg;obtain⟨W2,hW2⟩:∃W2,W2=(w.alloc (.cells #[.pointer (some ⟨tb,0,none⟩)] 377)).alloc (.cells #[.pointer (some ⟨2,377,none⟩),.pointer (some ⟨w.heap.size,0,none⟩),.int .u64 150] 393):=⟨_,rfl⟩;have n8:=Tryz.isNilP ⟨w.heap.size,0,none⟩ ⟨tb,0,none⟩ ((w.alloc (.cells #[.pointer (some ⟨tb,0,none⟩)] 377)).alloc (.cells #[.pointer (some ⟨2,377,none⟩),.pointer (some ⟨w.heap.size,0,none⟩),.int .u64 150] 393)) (by simp)
 have hg2:((w.alloc (.cells #[.pointer (some ⟨tb,0,none⟩)] 377)).alloc (.cells #[.pointer (some ⟨2,377,none⟩),.pointer (some ⟨w.heap.size,0,none⟩),.int .u64 150] 393)).cell? ⟨1,0,none⟩=some (.iface 410 (.agg #[.pointer (some ⟨2,358,none⟩)])):=by
  rw[kM _ _ ⟨1,0,none⟩ (by simp;omega),kM _ _ ⟨1,0,none⟩ hgl];exact hg
 obtain⟨W4,hW4⟩:∃W4,W4=(((w.alloc (.cells #[.pointer (some ⟨tb,0,none⟩)] 377)).alloc (.cells #[.pointer (some ⟨2,377,none⟩),.pointer (some ⟨w.heap.size,0,none⟩),.int .u64 150] 393)).alloc (.cells #[.pointer (some ⟨2,377,none⟩),.pointer (some ⟨w.heap.size,0,none⟩),.int .u64 150] 393)).alloc (.cells #[iv y.e,iv y.c,iv y.p,iv y.f,.iface 373 (.agg #[iv x.e,iv x.c,iv x.p,iv x.f])] 375):=⟨_,rfl⟩
 have hb4:Below w.heap.size w W4:=by
  rw[hW4];exact (((zN).alloc (by simp) _).alloc (by simp;omega) _).alloc (by simp;omega) _
 have hz4:W4.heap.size=w.heap.size+1+1+1+1:=by rw[hW4];simp
 have c0:W4.cell? ⟨w.heap.size,0,none⟩=some (.pointer (some ⟨tb,0,none⟩)):=by
  rw[hW4,kM _ _ ⟨w.heap.size,0,none⟩ (by simp;omega),kM _ _ ⟨w.heap.size,0,none⟩ (by simp;omega),kM _ _ ⟨w.heap.size,0,none⟩ (by simp)];simp
 have el:=Tryz.elemVP ⟨w.heap.size,0,none⟩ ⟨tb,0,none⟩ W4 c0
 have bx:∀j v,#[Value.pointer (some ⟨2,377,none⟩),.pointer (some ⟨w.heap.size,0,none⟩),.int .u64 150][j]?=some v->W4.cell? ⟨w.heap.size+1+1,j,none⟩=some v:=fun j v hj=>by
  rw[hW4,kM _ _ ⟨w.heap.size+1+1,j,none⟩ (by simp),World.cell?_alloc_at _ _ _ _ (by simp)];exact hj
 have b0:=bx 0 _ rfl;have b1:=bx 1 _ rfl;have b2:=bx 2 _ rfl;have hb5:Below w.heap.size w (W4.alloc (.cells #[iv x.e,iv x.c,iv x.p,iv x.f] 373)):=hb4.alloc (by omega) _
 have st:=Tryz.setT tb (w.heap.size+1+1+1+1) x (W4.alloc (.cells #[iv x.e,iv x.c,iv x.p,iv x.f] 373))
  (by rw[<- hz4];exact⟨by simp,by simp,by simp,by simp⟩)
  (fun j hj=>by rw[hb5.cell (p:=⟨tb,0+j,none⟩) htl];exact ht0 j hj)
  (fun j hj=>by rw[hb5.frozen (p:=⟨tb,0+j,none⟩) htl];exact hf0 j hj)
 have HB:Hid (Below tb w ((W4.alloc (.cells #[iv x.e,iv x.c,iv x.p,iv x.f] 373)).setCells tb 0 (vLk x))):=QK3 (by omega) _ _ _ (hb5.mono (by omega));have HW4:=(show Hid (_=_) from hW4);clear hW2 hb4 hb5 hW4 bx c0 hg ht0 hf0;go_enter func301,ntmps301;go_wp2;refine wp_loop_rounds 2 ?_;rw[rounds_succ]
 go_wp2_with (first
  | (go_at_call 358;refine (qJS y _ _).mono ?_;rintro e w' ⟨rfl,rfl⟩)
  | fail)
 rw[<- HW4.out];rw[rounds_succ];go_wp2;go_ret;exact⟨rfl,HB.out⟩
/-- errors.As at an error of errors.New's make. -/
theorem qKu (q:Addr) (tb:Nat) (w:World) (hg:w.cell? ⟨1,0,none⟩=some (.iface 410 (.agg #[.pointer (some ⟨2,358,none⟩)]))) :
  CP 301 #[.iface 427 (.pointer (some q)),.iface 377 (.pointer (some ⟨tb,0,none⟩))] w fun ev w'=>ev=.returned (.bool false)/\Below w.heap.size w w':=by
 have h6:=@jK prog 316 _ (fun args=>ReflectliteValue.unpack (args.getD 0 (.tuple #[]))) func316 (by kernel_rfl) (by kernel_rfl) (by kernel_rfl) (by kernel_rfl);have h7:=@jK prog 317 _ (ReflectliteValue.methodAny (ReflectliteValue.valueError "reflectlite.Value.Type" 0) (fun t _ _ _=>ReflectliteType.toType t)) func317 (by kernel_rfl) (by kernel_rfl) (by kernel_rfl) (by kernel_rfl);have h8:=@jK prog 318 _ (ReflectliteValue.method (ReflectliteValue.valueError "reflectlite.Value.IsNil" 0) ReflectliteValue.isNil) func318 (by kernel_rfl) (by kernel_rfl) (by kernel_rfl) (by kernel_rfl);have h27:=@jK prog 345 _ (ReflectliteType.abiMethod fun t=>do pure (.int .u8 (<- Rtype.kind t))) func345 (by kernel_rfl) (by kernel_rfl) (by kernel_rfl) (by kernel_rfl);have h37:=@jK prog 365 _ (ReflectliteType.method ReflectliteType.elem) func365 (by kernel_rfl) (by kernel_rfl) (by kernel_rfl) (by kernel_rfl);have h38:=@jK prog 366 _ (ReflectliteType.relation "Implements" ReflectliteType.implements_) func366 (by kernel_rfl) (by kernel_rfl) (by kernel_rfl) (by kernel_rfl);have h10:=@jK prog 326 _ ReflectliteType.typeOf func326 (by kernel_rfl) (by kernel_rfl) (by kernel_rfl) (by kernel_rfl);have h35:=@jK prog 363 _ (ReflectliteType.relation "AssignableTo" ReflectliteType.assignableTo) func363 (by kernel_rfl) (by kernel_rfl) (by kernel_rfl) (by kernel_rfl);have h11:=@jK prog 327 _ (ReflectliteValue.method (ReflectliteValue.valueError "reflectlite.Value.Elem" 0) ReflectliteValue.elem) func327 (by kernel_rfl) (by kernel_rfl) (by kernel_rfl) (by kernel_rfl);have h12:=@jK prog 328 _ ReflectliteValue.set func328 (by kernel_rfl) (by kernel_rfl) (by kernel_rfl) (by kernel_rfl);have tS:=Tryz.typeOfS;have mA:=Tryz.methodAssignableTo;have aS:=Tryz.assignS;have f6:=Tryz.valueOfP;have f7:=Tryz.typeP;have mK:=Tryz.methodKind;have mE:=Tryz.methodElem;have mI:=Tryz.methodImplements;have kP:=Tryz.kindP;have kT:=Tryz.kindT;have eP:=Tryz.elemP;have iT:=Tryz.implementsT;have nA:=Tryz.noAsS;have nU:=Tryz.noUnS;have nV:=Tryz.noUmS;have hgl:1<w.heap.size:=zL w _ hg;have n8:=Tryz.isNilP ⟨w.heap.size,0,none⟩ ⟨tb,0,none⟩ ((w.alloc (.cells #[.pointer (some ⟨tb,0,none⟩)] 377)).alloc (.cells #[.pointer (some ⟨2,377,none⟩),.pointer (some ⟨w.heap.size,0,none⟩),.int .u64 150] 393)) (by simp)
 have hg2:((w.alloc (.cells #[.pointer (some ⟨tb,0,none⟩)] 377)).alloc (.cells #[.pointer (some ⟨2,377,none⟩),.pointer (some ⟨w.heap.size,0,none⟩),.int .u64 150] 393)).cell? ⟨1,0,none⟩=some (.iface 410 (.agg #[.pointer (some ⟨2,358,none⟩)])):=by
  rw[kM _ _ ⟨1,0,none⟩ (by simp;omega),kM _ _ ⟨1,0,none⟩ hgl];exact hg
 clear hg;go_enter func301,ntmps301;go_wp2;refine wp_loop_rounds 1 ?_;rw[rounds_succ];go_wp2;go_ret;exact⟨rfl,((zN).alloc (by simp) _).alloc (by simp;omega) _⟩
end
def qD9(w:World):Prop:=w.cell? ⟨1,0,none⟩=some (.iface 410 (.agg #[.pointer (some ⟨2,358,none⟩)]))
theorem qD9.below{w w':World}(h:qD9 w)(hb:Below w.heap.size w w'):qD9 w' :=
 (hb.cell (p:=⟨1,0,none⟩) (zL w _ h)).trans h
def qFv(y x:LkI):Value:=.iface 375 (.agg #[iv y.e,iv y.c,iv y.p,iv y.f,.iface 373 (.agg #[iv x.e,iv x.c,iv x.p,iv x.f])])
theorem qFS(w:World):CP 291 #[.nilIface] w fun e w'=>e=.returned (iv 0)/\Below w.heap.size w w':=by
 go_enter func291,ntmps291;go_wp2;go_ret;exact⟨rfl,zN⟩
theorem qCX(y x:LkI)(w:World)(hg:qD9 w):CP 291 #[qFv y x] w fun e w'=>e=.returned (iv 6)/\Below w.heap.size w w':=by
 have HB:Hid (Below w.heap.size w (w.alloc (.cells #[iv 0,iv 0,iv 0,iv 0] 373))):=zN;have HG:Hid (qD9 (w.alloc (.cells #[iv 0,iv 0,iv 0,iv 0] 373))):=hg.below HB.out
 have HC:Hid ((∀j,j<4->((w.alloc (.cells #[iv 0,iv 0,iv 0,iv 0] 373)).cell? ⟨w.heap.size,0+j,none⟩).isSome=true)/\∀j,j<4->(w.alloc (.cells #[iv 0,iv 0,iv 0,iv 0] 373)).frozen? ⟨w.heap.size,0+j,none⟩=false):=by
  refine⟨fun j hj=>?_,fun j hj=>by simp[go_sem]⟩;rw[World.cell?_alloc_at _ _ _ _ rfl];simp;omega
 clear hg;unfold qFv;go_enter func291,ntmps291;go_upto_region 2 with fail
 generalize w.alloc (.cells #[iv 0,iv 0,iv 0,iv 0] 373)=w1 at HB HG HC ⊢
 go_wp2_with fail
 refine (qNK y x w.heap.size _ HG.out HC.out.1 HC.out.2).mono ?_;rintro e w2 ⟨rfl,hb⟩;have HB2:Hid (Below w.heap.size w w2):=HB.out.trans hb;clear hb;go_wp2;go_ret;exact⟨rfl,HB2.out⟩
theorem qCY(q:Addr)(w:World)(hg:qD9 w):CP 291 #[.iface 427 (.pointer (some q))] w fun e w'=>e=.returned (iv 2)/\Below w.heap.size w w':=by
 have HB:Hid (Below w.heap.size w (w.alloc (.cells #[iv 0,iv 0,iv 0,iv 0] 373))):=zN;have HG:Hid (qD9 (w.alloc (.cells #[iv 0,iv 0,iv 0,iv 0] 373))):=hg.below HB.out;clear hg;go_enter func291,ntmps291;go_upto_region 2 with fail
 generalize w.alloc (.cells #[iv 0,iv 0,iv 0,iv 0] 373)=w1 at HB HG ⊢
 go_wp2_with fail
 refine (qKu q w.heap.size _ HG.out).mono ?_;rintro e w2 ⟨rfl,hb⟩;have HB2:Hid (Below w.heap.size w w2):=HB.out.trans (hb.mono HB.out.size);clear hb;go_wp2;go_ret;exact⟨rfl,HB2.out⟩
theorem qFu{w:World}{ad:Addr}{n:Nat}{gs:List LkI}(h:qJ9 w (some ad) n gs):∀j u,(qA2 gs)[j]?=some u->w.cell? (ad.add j)=some u:=by
 by_cases q:0<n
 .obtain⟨b,off,e,_⟩:=h.2 q;cases e;exact QO9 h
 .have hg:gs=[]:=List.eq_nil_of_length_eq_zero (by have:=h.1;omega);subst hg;intro j u hj;simp[qA2]at hj
theorem qDk(a0:Option Addr)(n cap:Nat)(gs:List LkI)(w:World)(hn:n<=1000)(h:qJ9 w a0 n gs):
  CP 298 #[.slice a0 n cap] w (qPT gs w):=by
 have q24:∀(w:World) (a:Option Addr) (n c n' c':Nat),(binOp .eql 113 (.slice a n c) (.slice none n' c')).run prog w=.ok (.bool a.isNone) w:=fun w a n c n' c'=>Lib.run_eql_slice_nil w _ _ a n c n' c' underlying113
 cases a0 with
 | none =>
  have hn0:n=0:=by
   by_cases q:0<n
   .obtain⟨_,_,e,_⟩:=h.2 q;cases e
   .omega
  have hg:gs=[]:=List.eq_nil_of_length_eq_zero (by have:=h.1;omega);subst hn0 hg;clear h;go_enter func298,ntmps298;go_wp2;go_ret;exact⟨none,0,rfl,jB _ _ _ _,gC _ _⟩
 | some ad =>
  obtain⟨i0,hi0,hz0,hz1,hz2⟩:=jT Tryz.info171;have HN:Hid (∀j u,(qA2 gs)[j]?=some u->w.cell? (ad.add j)=some u):=qFu h
  have hcell:Hid (∀j u,(qA2 gs)[j]?=some u->(w.alloc (.cells #[] 171)).cell? (ad.add j)=some u):=fun j u hj=>by
   have h1:=HN.out j u hj;have h2:=zL w _ h1;exact ((gC w.heap.size w).alloc (gB _) (.cells #[] 171)).cell h2 |>.trans h1
  have HL:=hJJ h.1;clear h;go_enter func298,ntmps298;go_wp2_with (at_builtin;refine jG _ rfl _ _ 113 rfl w.heap.size 171 i0 (.agg #[iv 0,iv 0,iv 0,iv 0]) 4 32 underlying113 hi0 hz0 hz1 hz2 rfl (by decide) _ 0 [] rfl (World.ownsRow_made w #[] 0 (gB _) (gH _) (by simp)) ad n cap (qA2 gs) rfl (by rw[qG0,HL.out]) hcell.out (qO6 _) (by unfold maxLen;omega) (by omega) (by simp) ?_)
  intro v' w' hO hG hV
  have hO':qB2 w' w.heap.size v' gs:=by
   unfold qB2;rw[HL.out];simpa using hO
  obtain⟨a',cap',e'⟩:=hO'.slice;subst e';go_wp2;go_ret;refine⟨a',cap',rfl,hO',?_⟩;exact QE5 (es:=[]) (World.ownsRow_made w #[] 0 (gB _) (gH _) (by simp)) (zN) hG (by simp)
def qOU(gs ys:List LkI)(w:World)(e:Ending)(w':World):Prop:=Below w.heap.size w w' /\
  ((∃y x,e=.returned (.tuple #[.slice none 0 0,qFv y x])/\qI9 gs ys=6/\tkL gs ys=[]) \/
   (∃q:Addr,e=.returned (.tuple #[.slice none 0 0,.iface 427 (.pointer (some q))])/\qI9 gs ys=2/\tkL gs ys=[]) \/
   ∃(a':Option Addr) (cap':Nat),e=.returned (.tuple #[.slice a' (tkL gs ys).length cap',.nilIface])/\qI9 gs ys=0/\qB2 w' w.heap.size (.slice a' (tkL gs ys).length cap') (tkL gs ys))
theorem qCT(a0:Option Addr)(n cap:Nat)(b:Option Addr)(m cap2:Nat)(gs ys:List LkI)(w:World)(hn:n<=200)(hm:m<=100)(h:qJ9 w a0 n gs)(hy:qJ9 w b m ys)(hs:SL gs)(ho:∀x∈gs,okL x=true)(hys:SL ys)(hyo:∀x∈ys,okL x=true)(hE:qM4 0 w):
  CP 290 #[.slice a0 n cap,.slice b m cap2] w (qOU gs ys w):=by
 have HG:=hJJ h;have HY:=hJJ hy;have HYS:=hJJ hys;have HYO:=hJJ hyo;have HZ:=hJJ h.1;have HM:=hJJ hy.1;have HE:=hJJ hE;have HS0:Hid (TkS gs ys 0 gs):=TkS.zero ys hs ho;have hm':(m:Int)<=100:=by omega
 clear h hy hs ho hys hyo hE;go_enter func290,ntmps290;go_wp2_with fail
 refine (qDk a0 n cap gs _ (by omega) HG.out).mono ?_;rintro e w7 ⟨a7,cap7,rfl,ho7,hb7⟩;have T7:Hid (qB2 w7 w.heap.size (.slice a7 gs.length cap7) gs/\Below w.heap.size w w7):=⟨ho7,hb7⟩;clear ho7 hb7;go_wp2_with fail
 go_loopw [6,15] (fun s i wr=>∃(k:Nat) (all:List LkI) (a:Option Addr) (cp:Nat),k<=m/\s=.slice a all.length cp/\i=iv (k:Int)/\Hid (TkS gs ys k all/\qB2 wr w.heap.size (.slice a all.length cp) all/\Below w.heap.size w wr)) (fun _ i _=>m-(intOf i).toNat)
 case atStart=>exact⟨0,gs,a7,cap7,gH _,rfl,rfl,HS0.out,T7.out⟩
 case round =>
  obtain⟨k,all,a,cp,hk,rfl,rfl,HK⟩:=hrel;have hlen:all.length<=300:=by have:=HK.out.1.len;have:=HZ.out;omega
  by_cases hlt:k<m
  .have hlt':(k:Int)<(m:Int):=by omega
   obtain⟨b1,o1,y,e1,hy,hr,hb1⟩:=HY.out.at hlt
   subst e1;obtain⟨c0,c1,c2,c3⟩:=hr.below HK.out.2.2 hb1;have HYK:=hJJ hy;have A1:Below wr.heap.size wr (wr.alloc (.cells #[iv y.e,iv y.c,iv y.p,iv y.f] 171)):=zN;have T1:Hid (qB2 (wr.alloc (.cells #[iv y.e,iv y.c,iv y.p,iv y.f] 171)) w.heap.size (.slice a all.length cp) all/\Below w.heap.size w (wr.alloc (.cells #[iv y.e,iv y.c,iv y.p,iv y.f] 171))):=⟨HK.out.2.1.below A1,HK.out.2.2.trans (A1.mono HK.out.2.2.size)⟩;have Y1:Hid (QF3 (wr.alloc (.cells #[iv y.e,iv y.c,iv y.p,iv y.f] 171)) wr.heap.size 0 y):=by simp[Hid,QF3]
   have hzb:wr.heap.size<(wr.alloc (.cells #[iv y.e,iv y.c,iv y.p,iv y.f] 171)).heap.size:=by simp
   clear hy hr A1;go_upto_region 5 with fail
   clear c0 c1 c2 c3;generalize wr.alloc (.cells #[iv y.e,iv y.c,iv y.p,iv y.f] 171)=w1 at T1 Y1 hzb ⊢
   obtain⟨y0,y1,y2,y3⟩:=Y1.out;simp only[gG]at y0 y1 y2 y3;go_wp2_with fail
   refine (qJo a all.length cp all y _ (T1.out.1.view.isIn rfl) HK.out.1.sl (by omega)).mono ?_;rintro e w2 ⟨i,fb,rfl,hcut,hfb,hb2⟩;have T2:Hid (qB2 w2 w.heap.size (.slice a all.length cp) all/\Below w.heap.size w w2):=⟨T1.out.1.below hb2,T1.out.2.trans (hb2.mono T1.out.2.size)⟩;have Y2:Hid (QF3 w2 wr.heap.size 0 y):=Y1.out.below hb2 hzb;have hzb2:wr.heap.size<w2.heap.size:=by have:=hb2.size;omega
   have HCU:=hJJ hcut;have hcase:=qDT HK.out.1.sl HK.out.1.ok hcut hfb;have HSM:Hid (qE6 all y.e y.c y.p=qE6 gs y.e y.c y.p):=HK.out.1.same k y (gB _) HYK.out
   have hin:i<=all.length:=by
    have:=qDi hcut;rw[<- this];unfold qCA;exact (List.takeWhile_sublist _).length_le
   clear hb2 T1 Y1 hzb y0 y1 y2 y3 hcut hfb;obtain⟨y0,y1,y2,y3⟩:=Y2.out;simp only[gG]at y0 y1 y2 y3;rcases hcase with⟨rfl,hf⟩ | ⟨rfl,x,hx,hf,hf0⟩
   .have HN:Hid (TkS gs ys (k+1) (QD6 all y)):=HK.out.1.put HYS.out HYK.out (HYO.out y (gO HYK.out)) (HSM.out.symm.trans hf)
    have HPL:Hid (all.take i++y::all.drop i=QD6 all y):=by
     show _=_
     rw[QD6,qDi HCU.out]
    have A2:Below w2.heap.size w2 (w2.alloc (.cells #[iv y.e,iv y.c,iv y.p,iv y.f] 171)):=zN;have T3:Hid (qB2 (w2.alloc (.cells #[iv y.e,iv y.c,iv y.p,iv y.f] 171)) w.heap.size (.slice a all.length cp) all/\Below w.heap.size w (w2.alloc (.cells #[iv y.e,iv y.c,iv y.p,iv y.f] 171))):=⟨T2.out.1.below A2,T2.out.2.trans (A2.mono T2.out.2.size)⟩;have Y3:Hid (QF3 (w2.alloc (.cells #[iv y.e,iv y.c,iv y.p,iv y.f] 171)) w2.heap.size 0 y):=by simp[Hid,QF3]
    have S3:Hid ((w2.alloc (.cells #[iv y.e,iv y.c,iv y.p,iv y.f] 171)).shape? w2.heap.size=some (171,4)):=by
     show World.shape? _ _=_
     unfold World.shape?;rw[heap_alloc_new];rfl
    have F3:Hid (∀j,(w2.alloc (.cells #[iv y.e,iv y.c,iv y.p,iv y.f] 171)).frozen? ⟨w2.heap.size,j,none⟩=false):=fun j=>World.frozen?_alloc_at _ _ _ j rfl
    have N3:Hid (a≠some ⟨w2.heap.size,0,none⟩):=fun e=>by
     have:=(QO8 T2.out.1 w2.heap.size (by rw[e];rfl)).2;omega
    clear hf A2;go_wp2_with fail
    generalize w2.alloc (.cells #[iv y.e,iv y.c,iv y.p,iv y.f] 171)=w3 at T3 Y3 S3 F3 ⊢
    refine (qGO w.heap.size a all.length cp i w2.heap.size all y _ rfl hin (by omega) T3.out.2.size T3.out.1 Y3.out _ S3.out F3.out N3.out).mono ?_;rintro e w4 ⟨g',cp',rfl,ho4,hg4⟩;rw[HPL.out]at ho4 ⊢
    have HP:Hid (qB2 w4 w.heap.size (.slice (some ⟨g',0,none⟩) (QD6 all y).length cp') (QD6 all y)/\Below w.heap.size w w4):=⟨ho4,QE5 T3.out.1 T3.out.2 hg4 T3.out.2.size⟩;clear ho4 hg4;go_wp2_with fail
    exact⟨⟨k+1,QD6 all y,some ⟨g',0,none⟩,cp',by omega,rfl,by go_num,HN.out,HP.out⟩,by simp[intOf];omega⟩
   .have hil:i<all.length:=by
     by_cases q:i<all.length
     .exact q
     .rw[gE (by omega)]at hx;cases hx
    obtain⟨g,e1,hxat⟩:=T2.out.1.view i x hx;subst e1;obtain⟨x0,x1,x2,x3⟩:=hxat;have hlt2:(i:Int)<(all.length:Int):=by omega
    have hfg:Hid (qE6 gs y.e y.c y.p=x.f):=HSM.out.symm.trans hf;have hf0':=hJJ hf0;clear hf hf0 hx;by_cases f1:x.f=y.f
    .have b2':(x.f != y.f)=false:=by simp[f1]
     have HN:Hid (TkS gs ys (k+1) all):=HK.out.1.stay HYK.out (by rw[hfg.out];exact hf0'.out) (by rw[hfg.out];exact f1);clear f1;go_wp2_with fail
     go_quiet (fail)
     go_wp2_with fail
     exact⟨⟨k+1,all,some ⟨g,0,none⟩,cp,by omega,rfl,by go_num,HN.out,T2.out.1.below (below_drewN (gC _ _) _),below_drewN T2.out.2 _⟩,by simp[intOf];omega⟩
    .have b2':(x.f != y.f)=true:=by simpa using f1
     have HN:Hid (qI9 gs ys=6/\tkL gs ys=[]):=by
      have h1:qJ4 gs ys (k+1)=none:=by
       rw[qJ3 HK.out.1.tk HYK.out,qO2,gI (by rw[hfg.out];exact hf0'.out),gI (by rw[hfg.out];exact f1)]
      exact QF7 h1 (by rw[HM.out];omega)
     clear f1;go_wp2_with fail
     go_quiet (fail)
     go_wp2_with fail
     go_quiet (fail)
     go_wp2_with fail
     refine gQ (v:=.tuple #[.slice none 0 0,qFv y x]) (by simp[results,results290,go_sem,qFv]) rfl ⟨?_,.inl ⟨y,x,rfl,HN.out.1,HN.out.2⟩⟩;first | exact below_drewN (below_drewN T2.out.2 _) _ | exact below_drewN T2.out.2 _
  .have hkm:k=m:=by omega
   subst hkm;have htk:qJ4 gs ys ys.length=some all:=by rw[HM.out];exact HK.out.1.tk
   obtain⟨q,hq⟩:=HE.out;have hq1:=(HK.out.2.2.cell (p:=⟨0,0,none⟩) (zL w _ hq)).trans hq;clear hq;by_cases h200:200<all.length
   .have hl2:(200:Int)<(all.length:Int):=by omega
    have HN:Hid (qI9 gs ys=2/\tkL gs ys=[]):=QY8 htk h200;clear htk;go_wp2_with fail
    go_quiet (fail)
    go_wp2_with fail
    refine gQ (v:=.tuple #[.slice none 0 0,.iface 427 (.pointer (some q))]) (by simp[results,results290,go_sem]) rfl ⟨?_,.inr (.inl ⟨q,rfl,HN.out.1,HN.out.2⟩)⟩;exact below_drewN HK.out.2.2 _
   .have hl2:(all.length:Int)<=200:=by omega
    have HN:Hid (qI9 gs ys=0/\tkL gs ys=all):=QI4 htk h200;clear htk;go_wp2_with fail
    refine gQ (v:=.tuple #[.slice a all.length cp,.nilIface]) (by simp[results,results290,go_sem]) rfl ⟨HK.out.2.2,.inr (.inr ⟨a,cp,?_,HN.out.1,?_⟩)⟩
    .rw[HN.out.2]
    .rw[HN.out.2];exact HK.out.2.1
theorem qBa(a:Option Addr)(n cap:Nat)(b:Option Addr)(m cap2:Nat)(gs:List LkI)(e f s c:Int)(w:World)(h:qJ9 w a n gs)(hc:qJ6 gs=c)(h0:c≠0):qH7 279 #[.slice a n cap,.slice b m cap2,iv e,iv f,iv s] c [] w:=by
 have B0:Below w.heap.size w (w.alloc (.cells #[iv 0,.slice none 0 0] 272)):=zN;have HF:Hid (CP 288 #[.slice a n cap] (w.alloc (.cells #[iv 0,.slice none 0 0] 272)) fun e w'=>e=.returned (iv c)/\Below (w.heap.size+1) (w.alloc (.cells #[iv 0,.slice none 0 0] 272)) w'):=(qZ3 a n cap gs _ (h.below B0)).mono fun e w' hh=>⟨by rw[hh.1,hc],by have:=hh.2;rw[jC]at this;exact this⟩
 have hcb:(c != 0)=true:=by simpa using h0
 clear h hc h0 B0;unfold qH7;go_enter func279,ntmps279;go_wp2_with fail
 refine HF.out.mono ?_;rintro r w1 ⟨rfl,hb1⟩;have d0:w1.cell? ⟨w.heap.size,0,none⟩=some (iv 0):=(hb1.cell (p:=⟨w.heap.size,0,none⟩) (by simp)).trans (by simp);have d1:w1.cell? ⟨w.heap.size,1,none⟩=some (.slice none 0 0):=(hb1.cell (p:=⟨w.heap.size,1,none⟩) (by simp)).trans (by simp);have g0:w1.frozen? ⟨w.heap.size,0,none⟩=false:=(hb1.frozen (p:=⟨w.heap.size,0,none⟩) (by simp)).trans (by simp[go_sem]);have g1:w1.frozen? ⟨w.heap.size,1,none⟩=false:=(hb1.frozen (p:=⟨w.heap.size,1,none⟩) (by simp)).trans (by simp[go_sem]);have B1:Below w.heap.size w w1:=(zN).trans (hb1.mono (by omega));clear hb1;go_wp2_with fail
 refine gQ (v:=.agg #[iv c,.slice none 0 0]) (by simp[results,results279,go_sem,d0,d1]) rfl ⟨none,0,rfl,jB _ _ _ _,?_⟩;exact (B1.setCell (gB _) _).setCell (gB _) _
structure TB0 (w w1:World):Prop where
 c0:w1.cell? ⟨w.heap.size,0,none⟩=some (.int .i64 0)
 c1:w1.cell? ⟨w.heap.size,1,none⟩=some (.slice none 0 0)
 f0:w1.frozen? ⟨w.heap.size,0,none⟩=false
 f1:w1.frozen? ⟨w.heap.size,1,none⟩=false
 bel:Below w.heap.size w w1
 lt:w.heap.size<w1.heap.size
theorem TB0.below{w w1 w2:World}(h:TB0 w w1)(hb:Below w1.heap.size w1 w2):TB0 w w2 :=
 ⟨(hb.cell (p:=⟨w.heap.size,0,none⟩) h.lt).trans h.c0,(hb.cell (p:=⟨w.heap.size,1,none⟩) h.lt).trans h.c1,(hb.frozen (p:=⟨w.heap.size,0,none⟩) h.lt).trans h.f0,(hb.frozen (p:=⟨w.heap.size,1,none⟩) h.lt).trans h.f1,h.bel.trans (hb.mono (by have:=h.lt;omega)),by have:=hb.size;have:=h.lt;omega⟩
theorem qDP(a0:Option Addr)(n cap:Nat)(b:Option Addr)(m cap2:Nat)(gs:List LkI)(zs:List Int)(e f s:Int)(w:World)(h:qJ9 w a0 n gs)(hy:qD0 w b m zs)(hc:qJ6 gs=0)(hE:qM4 0 w)(hH:qD9 w):
  qH7 279 #[.slice a0 n cap,.slice b m cap2,iv e,iv f,iv s] (qE3 gs zs e f s) (qL4 gs zs e f s) w:=by
 obtain⟨W,hW⟩:∃W,W=w.alloc (.cells #[iv 0,.slice none 0 0] 272):=⟨_,rfl⟩;have HW:=hJJ hW
 have T0:Hid (TB0 w W):=by
  show TB0 w W
  rw[hW];exact⟨by go_cell,by go_cell,by simp[go_sem],by simp[go_sem],zN,by simp⟩
 have HG:=hJJ h;have HI:=hJJ hy;have HE:=hJJ hE;have HH:=hJJ hH;have hok:=QJ0 hc;have hn:n<=200:=by have:=hok.1;have:=h.1;omega
 have hCT:qE3 gs zs e f s=if qE5 zs e f s=0 then qI9 gs (qB6 zs e f s zs.length) else qE5 zs e f s:=by unfold qE3;rw[gK hc]
 have hLT:qL4 gs zs e f s=if qE5 zs e f s=0 then tkL gs (qB6 zs e f s zs.length) else []:=by
  unfold qL4;by_cases q:qE5 zs e f s=0
  .rw[gK ⟨hc,q⟩,gK q]
  .rw[gI (fun r=>q r.2),gI q]
 have hzm:zs.length=m:=hy.1;have inBelow:∀w1,Below w.heap.size w w1->qJ9 w1 a0 n gs/\qD0 w1 b m zs/\qM4 0 w1/\qD9 w1:=fun w1 q=>⟨HG.out.below q,HI.out.below q,HE.out.below q,HH.out.below q⟩
 have HIN:Hid (∀w1,Below w.heap.size w w1->qJ9 w1 a0 n gs/\qD0 w1 b m zs/\qM4 0 w1/\qD9 w1):=inBelow;have HLF:Hid (CP 288 #[.slice a0 n cap] W fun e w'=>e=.returned (iv 0)/\Below W.heap.size W w'):=(qZ3 _ n cap gs W (inBelow W T0.out.bel).1).mono fun e w' hh=>⟨by rw[hh.1,hc],hh.2⟩
 clear h hy hW hE hH inBelow HG HI HE HH;by_cases hd:qE5 zs e f s=0
 .rw[hCT,hLT,gK hd,gK hd];obtain⟨u1,u2⟩:=qAC hd;have HN:Hid (∀w2:World,qD0 w2 b m zs->qCN 289 b m cap2 e f s 0 (qB6 zs e f s m) w2):=fun w2 q=>qBc b m cap2 zs e f s w2 q hd
  have hm4:m<=4:=by rw[<- hzm];exact (qGc (QP1 hd).1).1
  rw[hzm]at u1 u2 ⊢
  have hlen:(qB6 zs e f s m).length<=100:=by have:=qW0 zs e f s m;omega
  generalize qB6 zs e f s m=ys at HN u1 u2 hlen ⊢
  have HT:Hid (∀(a1:Option Addr) (cc:Nat) (w2:World),qJ9 w2 a0 n gs->qJ9 w2 a1 ys.length ys->qM4 0 w2->CP 290 #[.slice a0 n cap,.slice a1 ys.length cc] w2 (qOU gs ys w2)):=fun a1 cc w2 q1 q2 q3=>qCT a0 n cap a1 ys.length cc gs ys w2 hn hlen q1 q2 hok.2.1 hok.2.2 u1 u2 q3
  obtain⟨cT,hcT⟩:∃c,qI9 gs ys=c:=⟨_,rfl⟩;obtain⟨L,hL⟩:∃L,tkL gs ys=L:=⟨_,rfl⟩;rw[hcT,hL];have HCT:=hJJ hcT;have HLT:=hJJ hL;clear hCT hLT hd hzm u1 u2 hok hc hcT hL;unfold qH7;go_enter func279,ntmps279;go_upto_region 1 with fail
  rw[<- HW.out];go_wp2_with fail
  refine HLF.out.mono ?_;rintro r w1 ⟨rfl,hb1⟩;have T1:Hid (TB0 w w1):=T0.out.below hb1;clear hb1;go_wp2_with fail
  refine (HN.out _ (HIN.out _ T1.out.bel).2.1).mono ?_;rintro r w2 ⟨a1,cap1,rfl,hown2,hb2⟩;have A3:Below w2.heap.size w2 (w2.alloc (.cells #[iv 0,.slice a1 ys.length cap1] 272)):=zN;have T3:Hid (TB0 w (w2.alloc (.cells #[iv 0,.slice a1 ys.length cap1] 272))):=(T1.out.below hb2).below A3;have V3:Hid (qJ9 (w2.alloc (.cells #[iv 0,.slice a1 ys.length cap1] 272)) a1 ys.length ys):=(hown2.view.below A3).isIn rfl;have X3:Hid (qAp (w2.alloc (.cells #[iv 0,.slice a1 ys.length cap1] 272)) w2.heap.size (iv 0) (.slice a1 ys.length cap1)):=qAp.new _ _ _ _;clear hown2 hb2 A3 T1;go_upto_region 5 with fail
  generalize w2.alloc (.cells #[iv 0,.slice a1 ys.length cap1] 272)=w3 at T3 V3 X3 ⊢
  obtain⟨x0,x1⟩:=X3.out;go_wp2_with fail
  obtain⟨i1,i2,i3,i4⟩:=HIN.out _ T3.out.bel;refine (HT.out a1 cap1 _ i1 V3.out i3).mono ?_;rintro r w4 ⟨hb4,hr⟩;have T4:Hid (TB0 w w4):=T3.out.below hb4;have hsz:=hJJ T3.out.lt;clear hb4 x0 x1 X3 V3 T3 i1 i2 i3 i4;rcases hr with⟨y,x,rfl,hc6,hL6⟩ | ⟨q,rfl,hc6,hL6⟩ | ⟨a',cap',rfl,hc6,hown⟩
  .have HN2:Hid (cT=6/\L=[]):=⟨HCT.out.symm.trans hc6,HLT.out.symm.trans hL6⟩;clear hc6 hL6;unfold qFv;go_wp2_with fail
   refine (qCX y x _ (HIN.out _ T4.out.bel).2.2.2).mono ?_;rintro r w5 ⟨rfl,hb5⟩;obtain⟨d0,d1,g0,g1,B5,_⟩:=T4.out.below hb5;clear hb5;go_wp2_with fail
   obtain⟨hc6,hL6⟩:=HN2.out;rw[hc6,hL6];refine gQ (v:=.agg #[iv 6,.slice none 0 0]) (by simp[results,results279,go_sem,d0,d1]) rfl ⟨none,0,rfl,jB _ _ _ _,?_⟩;exact (B5.setCell (gB _) _).setCell (gB _) _
  .have HN2:Hid (cT=2/\L=[]):=⟨HCT.out.symm.trans hc6,HLT.out.symm.trans hL6⟩;clear hc6 hL6;go_wp2_with fail
   refine (qCY q _ (HIN.out _ T4.out.bel).2.2.2).mono ?_;rintro r w5 ⟨rfl,hb5⟩;obtain⟨d0,d1,g0,g1,B5,_⟩:=T4.out.below hb5;clear hb5;go_wp2_with fail
   obtain⟨hc6,hL6⟩:=HN2.out;rw[hc6,hL6];refine gQ (v:=.agg #[iv 2,.slice none 0 0]) (by simp[results,results279,go_sem,d0,d1]) rfl ⟨none,0,rfl,jB _ _ _ _,?_⟩;exact (B5.setCell (gB _) _).setCell (gB _) _
  .have HN2:Hid (cT=0):=HCT.out.symm.trans hc6;rw[HLT.out]at hown ⊢
   have HO:=hJJ hown;clear hc6 hown HT;go_wp2_with fail
   refine (qFS _).mono ?_;rintro r w5 ⟨rfl,hb5⟩;have HO5:Hid (qB2 w5 w3.heap.size (.slice a' L.length cap') L):=HO.out.below hb5;obtain⟨d0,d1,g0,g1,B5,_⟩:=T4.out.below hb5;clear hb5;go_wp2_with fail
   rw[HN2.out];refine gQ (v:=.agg #[iv 0,.slice a' L.length cap']) (by simp[results,results279,go_sem,d0,d1]) rfl ⟨a',cap',rfl,?_,?_⟩
   .exact qB0 (QW0 HO5.out (qY8 _ _ _ _) hsz.out) (Nat.le_of_lt hsz.out)
   .exact (B5.setCell (gB _) _).setCell (gB _) _
 .rw[hCT,hLT,gI hd,gI hd];obtain⟨c,hc'⟩:∃c,qE5 zs e f s=c:=⟨_,rfl⟩;rw[hc']at hd ⊢
  have HN:Hid (∀w2:World,qD0 w2 b m zs->qCN 289 b m cap2 e f s c [] w2):=fun w2 q=>qAN b m cap2 zs e f s c w2 q hc' hd
  have hcb:(c != 0)=true:=by simpa using hd
  clear hCT hLT hd hzm hok hc hc';unfold qH7;go_enter func279,ntmps279;go_upto_region 1 with fail
  rw[<- HW.out];go_wp2_with fail
  refine HLF.out.mono ?_;rintro r w1 ⟨rfl,hb1⟩;have T1:Hid (TB0 w w1):=T0.out.below hb1;clear hb1;go_wp2_with fail
  refine (HN.out _ (HIN.out _ T1.out.bel).2.1).mono ?_;rintro r w2 ⟨a1,cap1,rfl,hown2,hb2⟩;have A3:Below w2.heap.size w2 (w2.alloc (.cells #[iv c,.slice a1 0 cap1] 272)):=zN;have T3:Hid (TB0 w (w2.alloc (.cells #[iv c,.slice a1 0 cap1] 272))):=(T1.out.below hb2).below A3;have O3:Hid (qB2 (w2.alloc (.cells #[iv c,.slice a1 0 cap1] 272)) w1.heap.size (.slice a1 0 cap1) []):=qB2.below hown2 A3;have hsz:=hJJ T1.out.lt;have X3:Hid (qAp (w2.alloc (.cells #[iv c,.slice a1 0 cap1] 272)) w2.heap.size (iv c) (.slice a1 0 cap1)):=qAp.new _ _ _ _;clear hown2 hb2 A3 T1;go_upto_region 5 with fail
  generalize w2.alloc (.cells #[iv c,.slice a1 0 cap1] 272)=w3 at T3 O3 X3 ⊢
  obtain⟨x0,x1⟩:=X3.out;obtain⟨d0,d1,g0,g1,B5,_⟩:=T3.out;go_wp2_with fail
  refine gQ (v:=.agg #[iv c,.slice a1 0 cap1]) (by simp[results,results279,go_sem,d0,d1]) rfl ⟨a1,cap1,rfl,?_,?_⟩
  .exact qB0 (QW0 O3.out (qY8 _ _ _ _) hsz.out) (Nat.le_of_lt hsz.out)
  .exact (B5.setCell (gB _) _).setCell (gB _) _
theorem qBZ(B:Nat)(a:Option Addr)(cap:Nat)(b:Option Addr)(m cap2:Nat)(gs:List LkI)(zs:List Int)(e f s:Int)(w:World)(ho:qB2 w B (.slice a gs.length cap) gs)(hy:qD0 w b m zs)(hE:qM4 0 w)(hH:qD9 w):
  qH7 279 #[.slice a gs.length cap,.slice b m cap2,iv e,iv f,iv s] (qE3 gs zs e f s) (qL4 gs zs e f s) w:=by
 by_cases hc:qJ6 gs=0
 .exact qDP a gs.length cap b m cap2 gs zs e f s w (ho.view.isIn rfl) hy hc hE hH
 .have h1:qE3 gs zs e f s=qJ6 gs:=by unfold qE3;rw[gI hc]
  have h2:qL4 gs zs e f s=[]:=by unfold qL4;rw[gI (fun q=>hc q.1)]
  rw[h1,h2];exact qBa a gs.length cap b m cap2 gs e f s _ w (ho.view.isIn rfl) rfl hc
