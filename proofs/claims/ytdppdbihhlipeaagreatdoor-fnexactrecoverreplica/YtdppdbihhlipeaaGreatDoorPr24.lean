/- Contracts. -/
import Derived.Test.YtdppdbihhlipeaaGreatDoorPr04
import Derived.Test.YtdppdbihhlipeaaGreatDoorPr05
import Derived.Test.YtdppdbihhlipeaaGreatDoorPr03
import Derived.Deep.DeepCutAuto
import Derived.Deep.CutBlock
import Derived.Deep.AppendLies
namespace Go.Proofs.YtdppdbihhlipeaaGreatDoor
set_option maxRecDepth 100000
set_option maxHeartbeats 8000000
open Go.RowKit
set_option linter.unusedVariables false
set_option linter.unusedSimpArgs false

section
def qMP (w:World) (b o:Nat) (x:GrI):Prop:=w.cell? ⟨b,o,none⟩=some (.int .i64 x.1.1)/\w.cell? ⟨b,o+1,none⟩=some (.int .i64 x.1.2)/\w.cell? ⟨b,o+2,none⟩=some (.int .i64 x.2)
theorem qMP.below {w w':World} {B b o:Nat} {x:GrI} (h:qMP w b o x) (hb:Below B w w') (hB:b < B):qMP w' b o x :=
 ⟨(hb.cell (p:=⟨b,o,none⟩) hB).trans h.1,(hb.cell (p:=⟨b,o+1,none⟩) hB).trans h.2.1,(hb.cell (p:=⟨b,o+2,none⟩) hB).trans h.2.2⟩
def QC1 (w:World) (a:Option Addr) (n:Nat) (gs:List GrI):Prop:=gs.length=n/\(0 < n->∃ b off,a=some ⟨b,off,none⟩/\∀ k x,gs[k]? = some x->qMP w b (off+k * 3) x)
theorem QC1.below {w w':World} {a:Option Addr} {n:Nat} {gs:List GrI} (h:QC1 w a n gs) (hb:Below w.heap.size w w'):QC1 w' a n gs:=by
 refine ⟨h.1,fun hn=>?_⟩;obtain ⟨b,off,e,k⟩:=h.2 hn;exact ⟨b,off,e,fun j x hx=>(k j x hx).below hb (zL w ⟨b,off+j * 3,none⟩ (k j x hx).1)⟩
theorem QC1.at {w:World} {a:Option Addr} {n:Nat} {gs:List GrI} (h:QC1 w a n gs) {k:Nat} (hk:k < n):∃ b off x,a=some ⟨b,off,none⟩/\gs[k]? = some x/\qMP w b (off+k * 3) x/\b < w.heap.size:=by
 obtain ⟨b,off,e,q⟩:=h.2 (by omega);have hx:=List.getElem?_eq_getElem (l:=gs) (i:=k) (by rw [h.1];exact hk);exact ⟨b,off,_,e,hx,q k _ hx,zL w ⟨b,off+k * 3,none⟩ (q k _ hx).1⟩
theorem qDa {gs:List GrI} {k:Nat} {x:GrI} (h:gs[k]? = some x) (r:RoI):ofG (gs.drop k) r=if x.1=r then x.2 else ofG (gs.drop (k+1)) r:=by
 have hk:k < gs.length:=by
  by_cases q:k < gs.length
  ·exact q
  ·rw [List.getElem?_eq_none (by omega)] at h;cases h
 have e:gs[k]=x:=by rw [List.getElem?_eq_getElem hk] at h;exact Option.some.inj h
 rw [List.drop_eq_getElem_cons hk,e];rfl
def qFa (p q:RoI):Bool:=p.1==q.1&&p.2==q.2
theorem qT3 (p q:RoI):qFa p q=true↔p=q:=by
 obtain ⟨a,b⟩:=p;obtain ⟨c,d⟩:=q;simp [qFa]
theorem qDN (p q:RoI) (w:World):(binOp .eql 123 (.agg #[.int .i64 p.1,.int .i64 p.2]) (.agg #[.int .i64 q.1,.int .i64 q.2])).run Tryz.prog w = .ok (.bool (qFa p q)) w:=by
 obtain ⟨a0,a1⟩:=p;obtain ⟨b0,b1⟩:=q;simp only [qFa];cases e0:(a0==b0)
 ·simp [go_sem,e0]
 cases e1:(a1==b1)
 ·simp [go_sem,e0,e1]
 ·simp [go_sem,e0,e1]
attribute [local go_sem ↓] qDN
theorem QO0 (a:Option Addr) (n c:Nat) (gs:List GrI) (r:RoI) (w:World) (hg:QC1 w a n gs) (hn:n<=1048576) :
  Calls Tryz.prog 155 #[.slice a n c,.agg #[.int .i64 r.1,.int .i64 r.2]] w fun e w'=>e = .returned (.int .i64 (ofG gs r))/\Below w.heap.size w w':=by
 have W0:Hid (QC1 (w.alloc (.cells #[.int .i64 r.1,.int .i64 r.2] 123)) a n gs):=hg.below (zN);have R0:Hid ((w.alloc (.cells #[.int .i64 r.1,.int .i64 r.2] 123)).cell? ⟨w.heap.size,0,none⟩=some (.int .i64 r.1)/\(w.alloc (.cells #[.int .i64 r.1,.int .i64 r.2] 123)).cell? ⟨w.heap.size,1,none⟩=some (.int .i64 r.2)):=⟨by simp,by simp⟩;clear hg;have hn':(n:Int)<=1048576:=by omega
 go_enter Tryz.func155,Tryz.ntmps155;go_wp2;go_loopw [5] (fun i wr=>∃ k:Nat,k<=n/\i = .int .i64 (k:Int)/\ofG gs r=ofG (gs.drop k) r/\∃ m,wr=(w.alloc (.cells #[.int .i64 r.1,.int .i64 r.2] 123)).drewN m) (fun i _=>n - (intOf i).toNat)
 case atStart=>exact ⟨0,Nat.zero_le _,rfl,rfl,0,rfl⟩
 case round =>
  obtain ⟨k,hk,rfl,hof,m,rfl⟩:=hrel;have HF:Hid (ofG gs r=ofG (gs.drop k) r):=hof;clear hof;by_cases hlt:k < n
  ·obtain ⟨b,off,x,e,hx,⟨c0,c1,c2⟩,hbl⟩:=W0.out.at hlt
   obtain ⟨r0,r1⟩:=R0.out;subst e;have HX:Hid (gs[k]? = some x):=hx;clear hx;have hlt':(k:Int) < (n:Int):=by omega
   cases he:qFa x.1 r
   ·have HE:Hid (ofG gs r=ofG (gs.drop (k+1)) r):=by
     show ofG gs r=_
     rw [HF.out,qDa HX.out,if_neg (fun q=>by rw [(qT3 _ _).2 q] at he;cases he)]
    go_wp2;go_quiet (fail)
    go_wp2;exact ⟨⟨k+1,by omega,by go_num,HE.out,_,rfl⟩,by simp [intOf];omega⟩
   ·have HE:Hid (ofG gs r=x.2):=by
     show ofG gs r=_
     rw [HF.out,qDa HX.out,if_pos ((qT3 _ _).1 he)]
    go_wp2;go_quiet (fail)
    go_wp2;go_ret;exact ⟨by rw [HE.out];rfl,bdN (zN) _⟩
  ·have hkn:k=n:=by omega
   subst hkn;go_wp2;go_ret;have : ofG gs r=0:=by rw [HF.out,List.drop_eq_nil_of_le (by rw [W0.out.1];exact Nat.le_refl _)];rfl
   exact ⟨by rw [this];rfl,bdN (zN) _⟩
end

theorem qLx (a:Option Addr) (n c:Nat) (gs:List GrI) (g off:Nat) (r:qA2) (w:World) (hg:QC1 w a n gs) (hn:n<=1048576) (hr:qD0 w g off r) (hs:∀ q,qK9 (ofG gs q)) (hk:okR r) (hk4:r.k=1) :
  Calls Tryz.prog 195 #[.slice a n c,.pointer (some ⟨g,off,none⟩)] w fun e w'=>e = .returned (.int .i64 (byF (ofG gs) r))/\Below w.heap.size w w':=by
 have HG:Hid (QC1 w a n gs):=hg;have HX:Hid (qD0 w g off r):=hr;have HS:Hid (∀ q,qK9 (ofG gs q)):=hs;have E:Hid (byF (ofG gs) r=qFT r.w):=by show byF (ofG gs) r=_;simp [byF,hk4]
 have hw:=hk.2 hk4;clear hk;clear hg hr hs;obtain ⟨k,ho,hn0,wh,oo,on,t0,tn⟩:=r;have hb:Below w.heap.size w w:=Below.refl _ _;obtain ⟨h0,h1,h2,h3,h4,h5,h6,h7⟩:=HX.out.below hb;simp only at h0 h1 h2 h3 h4 h5 h6 h7 hk4 hw;subst hk4;go_enter Tryz.func195,Tryz.ntmps195;go_wp2_with (first | (go_at_call 155;refine (QO0 _ _ _ gs (oo,on) _ (HG.out.below hb) hn).mono ?_;rintro e w1 ⟨rfl,hb1⟩;replace hb:=hb.trans (hb1.mono hb.size);clear h0 h1 h2 h3 h4 h5 h6 h7 hb1;obtain ⟨h0,h1,h2,h3,h4,h5,h6,h7⟩:=HX.out.below hb;simp only at h0 h1 h2 h3 h4 h5 h6 h7) | (go_at_call 156;refine (qHA _ hw.1 hw.2 _).mono ?_;rintro e w2 ⟨rfl,rfl⟩))
 go_ret;exact ⟨by rw [E.out];rfl,hb⟩
theorem qLw (a:Option Addr) (n c:Nat) (gs:List GrI) (g off:Nat) (r:qA2) (w:World) (hg:QC1 w a n gs) (hn:n<=1048576) (hr:qD0 w g off r) (hs:∀ q,qK9 (ofG gs q)) (hk:okR r) (hk4:r.k=2) :
  Calls Tryz.prog 195 #[.slice a n c,.pointer (some ⟨g,off,none⟩)] w fun e w'=>e = .returned (.int .i64 (byF (ofG gs) r))/\Below w.heap.size w w':=by
 have HG:Hid (QC1 w a n gs):=hg;have HX:Hid (qD0 w g off r):=hr;have HS:Hid (∀ q,qK9 (ofG gs q)):=hs;have E:Hid (byF (ofG gs) r=ofG gs (r.oo,r.on)):=by show byF (ofG gs) r=_;simp [byF,hk4]
 clear hk;clear hg hr hs;obtain ⟨k,ho,hn0,wh,oo,on,t0,tn⟩:=r;have hb:Below w.heap.size w w:=Below.refl _ _;obtain ⟨h0,h1,h2,h3,h4,h5,h6,h7⟩:=HX.out.below hb;simp only at h0 h1 h2 h3 h4 h5 h6 h7 hk4;subst hk4;go_enter Tryz.func195,Tryz.ntmps195;go_wp2_with (first | (go_at_call 155;refine (QO0 _ _ _ gs (oo,on) _ (HG.out.below hb) hn).mono ?_;rintro e w1 ⟨rfl,hb1⟩;replace hb:=hb.trans (hb1.mono hb.size);clear h0 h1 h2 h3 h4 h5 h6 h7 hb1;obtain ⟨h0,h1,h2,h3,h4,h5,h6,h7⟩:=HX.out.below hb;simp only at h0 h1 h2 h3 h4 h5 h6 h7))
 go_ret;exact ⟨by rw [E.out];rfl,hb⟩
theorem qLu (a:Option Addr) (n c:Nat) (gs:List GrI) (g off:Nat) (r:qA2) (w:World) (hg:QC1 w a n gs) (hn:n<=1048576) (hr:qD0 w g off r) (hs:∀ q,qK9 (ofG gs q)) (hk:okR r) (hk4:r.k=4) :
  Calls Tryz.prog 195 #[.slice a n c,.pointer (some ⟨g,off,none⟩)] w fun e w'=>e = .returned (.int .i64 (byF (ofG gs) r))/\Below w.heap.size w w':=by
 have HG:Hid (QC1 w a n gs):=hg;have HX:Hid (qD0 w g off r):=hr;have HS:Hid (∀ q,qK9 (ofG gs q)):=hs;have E:Hid (byF (ofG gs) r=qKB (ofG gs (r.oo,r.on)) (ofG gs (r.to,r.tn))):=by show byF (ofG gs) r=_;simp [byF,hk4]
 clear hk;clear hg hr hs;obtain ⟨k,ho,hn0,wh,oo,on,t0,tn⟩:=r;have hb:Below w.heap.size w w:=Below.refl _ _;obtain ⟨h0,h1,h2,h3,h4,h5,h6,h7⟩:=HX.out.below hb;simp only at h0 h1 h2 h3 h4 h5 h6 h7 hk4;subst hk4;go_enter Tryz.func195,Tryz.ntmps195;go_upto_region 8 with (first | (go_at_call 155;refine (QO0 _ _ _ gs (oo,on) _ (HG.out.below hb) hn).mono ?_;rintro e w1 ⟨rfl,hb1⟩;replace hb:=hb.trans (hb1.mono hb.size);clear h0 h1 h2 h3 h4 h5 h6 h7 hb1;obtain ⟨h0,h1,h2,h3,h4,h5,h6,h7⟩:=HX.out.below hb;simp only at h0 h1 h2 h3 h4 h5 h6 h7))
 go_wp2_with (first | (go_at_call 155;refine (QO0 _ _ _ gs (t0,tn) _ (HG.out.below hb) hn).mono ?_;rintro e w2 ⟨rfl,hb1⟩;replace hb:=hb.trans (hb1.mono hb.size);clear h0 h1 h2 h3 h4 h5 h6 h7 hb1))
 go_ret;exact ⟨by rw [E.out];rfl,hb⟩
theorem qLv (a:Option Addr) (n c:Nat) (gs:List GrI) (g off:Nat) (r:qA2) (w:World) (hg:QC1 w a n gs) (hn:n<=1048576) (hr:qD0 w g off r) (hs:∀ q,qK9 (ofG gs q)) (hk:okR r) (hk4:r.k=3) :
  Calls Tryz.prog 195 #[.slice a n c,.pointer (some ⟨g,off,none⟩)] w fun e w'=>e = .returned (.int .i64 (byF (ofG gs) r))/\Below w.heap.size w w':=by
 have HG:Hid (QC1 w a n gs):=hg;have HX:Hid (qD0 w g off r):=hr;have HS:Hid (∀ q,qK9 (ofG gs q)):=hs;have E:Hid (byF (ofG gs) r=qL7 (ofG gs) r.tn (qB3 (ofG gs (r.oo,r.on)) 8) (qB3 (ofG gs (r.oo,r.on)) 8).length):=by show byF (ofG gs) r=_;simp [byF,hk4]
 clear hk;clear hg hr hs;obtain ⟨k,ho,hn0,wh,oo,on,t0,tn⟩:=r;have hb:Below w.heap.size w w:=Below.refl _ _;obtain ⟨h0,h1,h2,h3,h4,h5,h6,h7⟩:=HX.out.below hb;simp only at h0 h1 h2 h3 h4 h5 h6 h7 hk4;subst hk4;go_enter Tryz.func195,Tryz.ntmps195;go_upto_region 10 with (first | (go_at_call 155;refine (QO0 _ _ _ gs (oo,on) _ (HG.out.below hb) hn).mono ?_;rintro e w1 ⟨rfl,hb1⟩;replace hb:=hb.trans (hb1.mono hb.size);clear h0 h1 h2 h3 h4 h5 h6 h7 hb1;obtain ⟨h0,h1,h2,h3,h4,h5,h6,h7⟩:=HX.out.below hb;simp only at h0 h1 h2 h3 h4 h5 h6 h7))
 have HLs:=HS.out (oo,on);obtain ⟨ys,hys⟩:∃ ys,ys=qB3 (ofG gs (oo,on)) 8:=⟨_,rfl⟩;have hl8:ys.length<=8:=by rw [hys];exact QT3 _ 8
 have hl8':(ys.length:Int)<=8:=by omega
 have E2:Hid (byF (ofG gs) ⟨3,ho,hn0,wh,oo,on,t0,tn⟩=qL7 (ofG gs) tn ys ys.length):=by rw [hys];exact E.out
 have HC:Hid (∀ W:World,Calls Tryz.prog 129 #[.int .i64 (ofG gs (oo,on))] W fun e w'=>∃ g cap,e = .returned (.slice (some ⟨g,0,none⟩) ys.length cap)/\w'.ownsRow W.heap.size 2 1 (.slice (some ⟨g,0,none⟩) ys.length cap) ys.length (ys.map (Value.int .i64))/\Below W.heap.size W w'):=fun W=>by rw [hys];exact QW8 _ HLs.1 HLs.2 W
 clear E hys HLs;go_wp2_with (first | (go_at_call 129;refine (HC.out _).mono ?_;rintro e w2 ⟨gl,cl,rfl,hown,hb1⟩;replace hb:=hb.trans (hb1.mono hb.size);clear h0 h1 h2 h3 h4 h5 h6 h7 hb1))
 have HR:Hid (qD0 w2 g off ⟨3,ho,hn0,wh,oo,on,t0,tn⟩):=HX.out.below hb
 have HY:Hid (∀ k y,ys[k]? = some y->w2.cell? ⟨gl,k,none⟩=some (.int .i64 y)):=fun k y hy=>by
  have hk:k < ys.length:=by
   by_cases q:k < ys.length
   ·exact q
   ·rw [List.getElem?_eq_none (by omega)] at hy;cases hy
  rw [hown.cellAt k (by omega),List.getElem?_map,hy];rfl
 have hgl:gl < w2.heap.size:=by
  rcases hown.2 with ⟨h',_⟩ | ⟨g',cap',cur,h',_,hg',_⟩
  ·simp at h'
  ·simp at h';rw [h'.1];exact (Array.getElem?_eq_some_iff.1 hg').1
 clear hown;go_loopw [6,8] (fun o i wr=>∃ k:Nat,k<=ys.length/\i = .int .i64 (k:Int)/\o = .int .i64 (qL7 (ofG gs) tn ys k)/\Below w2.heap.size w2 wr) (fun _ i _=>ys.length - (intOf i).toNat)
 case atStart=>exact ⟨0,Nat.zero_le _,rfl,by rw [qCF],Below.refl _ _⟩
 case round =>
  obtain ⟨k,hk,rfl,rfl,hnx⟩:=hrel;by_cases hlt:k < ys.length
  ·obtain ⟨y,hy⟩:∃ y,ys[k]? = some y:=⟨_,List.getElem?_eq_getElem hlt⟩;have c0:=(hnx.cell (p:=⟨gl,k,none⟩) hgl).trans (HY.out k y hy);have HL:Hid (qL7 (ofG gs) tn ys (k+1)=orI (qL7 (ofG gs) tn ys k) (ofG gs (y,tn))):=qCG hy _ _;have hw:Below w.heap.size w wr:=hb.trans (hnx.mono hb.size);clear hy;obtain ⟨h0,h1,h2,h3,h4,h5,h6,h7⟩:=HR.out.below hnx;simp only at h0 h1 h2 h3 h4 h5 h6 h7;have hlt':(k:Int) < (ys.length:Int):=by omega
   have HQ:Hid (∀ W:World,((∀ b o,b < wr.heap.size->W.cell? ⟨b,o,none⟩=wr.cell? ⟨b,o,none⟩)/\Below wr.heap.size wr W)->Calls Tryz.prog 155 #[.slice a n c,.agg #[.int .i64 y,.int .i64 tn]] W fun e w'=>e = .returned (.int .i64 (ofG gs (y,tn)))/\Below W.heap.size W w'):=fun W hW=>QO0 _ _ _ gs (y,tn) _ (HG.out.below (hw.trans (hW.2.mono hw.size))) hn
   have hbg:g < wr.heap.size:=zL wr ⟨g,off,none⟩ h0;have hgl2:gl < wr.heap.size:=zL wr ⟨gl,k,none⟩ c0;go_wp2
   go_region_held3 (fun w'=>(∀ b o,b < wr.heap.size->w'.cell? ⟨b,o,none⟩=wr.cell? ⟨b,o,none⟩)/\Below wr.heap.size wr w') (first | exact hS | exact qC1 _)
    (first | (go_at_call 155;refine (HQ.out _ (by assumption)).mono ?_;rintro e w' ⟨rfl,hb1⟩;have hS:=qA9 (by assumption) hb1))
   go_wp2;exact ⟨⟨k+1,by omega,by go_num,by rw [HL.out],hnx.trans (hS.2.mono hnx.size)⟩,by simp [intOf];omega⟩
  ·have hkn:k=ys.length:=by omega
   subst hkn;go_wp2;go_ret;exact ⟨by rw [E2.out];rfl,hb.trans (hnx.mono hb.size)⟩
theorem qLt (a:Option Addr) (n c:Nat) (gs:List GrI) (g off:Nat) (r:qA2) (w:World) (hg:QC1 w a n gs) (hn:n<=1048576) (hr:qD0 w g off r) (hs:∀ q,qK9 (ofG gs q)) (hk:okR r) (hk4:1<=r.k/\r.k<=4) :
  Calls Tryz.prog 195 #[.slice a n c,.pointer (some ⟨g,off,none⟩)] w fun e w'=>e = .returned (.int .i64 (byF (ofG gs) r))/\Below w.heap.size w w':=by
 have h4:r.k=1\/r.k=2\/r.k=3\/r.k=4:=by omega
 rcases h4 with e | e | e | e
 ·exact qLx a n c gs g off r w hg hn hr hs hk e
 ·exact qLw a n c gs g off r w hg hn hr hs hk e
 ·exact qLv a n c gs g off r w hg hn hr hs hk e
 ·exact qLu a n c gs g off r w hg hn hr hs hk e

section
theorem Tryz.info246:(Tryz.prog.info? 246).map (fun i=>(i.zero,i.size,i.bytes))=some (some (.agg #[.int .i64 0,.int .i64 0,.int .i64 0]),3,24):=by kernel_rfl
theorem Tryz.under224:Tryz.prog.underlying 224=some (.slice 246):=by kernel_rfl
def qL8:List GrI->List Value
 | []=>[]
 | p::ps => .int .i64 p.1.1 :: .int .i64 p.1.2 :: .int .i64 p.2::qL8 ps
theorem qAt (a b:List GrI):qL8 (a++b)=qL8 a++qL8 b:=by
 induction a with
 | nil=>rfl
 | cons p ps ih=>simp [qL8,ih]
theorem qAs (a:List GrI):(qL8 a).length=a.length * 3:=by
 induction a with
 | nil=>rfl
 | cons p ps ih=>simp [qL8,ih];omega
theorem QX8:∀ (a:List GrI) (k:Nat) (p:GrI),a[k]? = some p->(qL8 a)[k * 3]? = some (.int .i64 p.1.1)/\(qL8 a)[k * 3+1]? = some (.int .i64 p.1.2)/\(qL8 a)[k * 3+2]? = some (.int .i64 p.2)
 | [],_,_,h=>by simp at h
 | q::qs,0,p,h=>by simp at h;subst h;exact ⟨rfl,rfl,rfl⟩
 | q::qs,k+1,p,h=>by
  have:=QX8 qs k p (by simpa using h);rw [show (k+1) * 3=k * 3+1+1+1 by omega,show k * 3+1+1+1+1=(k * 3+1)+1+1+1 by omega,show k * 3+1+1+1+2=(k * 3+2)+1+1+1 by omega];simpa [qL8] using this
theorem qHU (a:List GrI):∀ u∈qL8 a,u.oneCell'=true:=by
 induction a with
 | nil=>simp [qL8]
 | cons p ps ih =>
  intro u hu;simp only [qL8,List.mem_cons] at hu;rcases hu with rfl | rfl | rfl | hu
  ·rfl
  ·rfl
  ·rfl
  ·exact ih u hu
def qP3 (w:World) (B:Nat) (v:Value) (gs:List GrI):Prop:=w.ownsRow B 246 3 v gs.length (qL8 gs)
theorem qP3.shape {w:World} {B:Nat} {v:Value} {gs:List GrI} (h:qP3 w B v gs) (hv:v ≠ .slice none 0 0):∃ g cap,v = .slice (some ⟨g,0,none⟩) gs.length cap:=by
 have h0:w.ownsRow B 246 3 v gs.length (qL8 gs):=h;rcases h0.2 with ⟨h',_⟩ | ⟨g,cap,cur,h',_⟩
 ·exact absurd h' hv
 ·exact ⟨g,cap,h'⟩
theorem qP3.read {w:World} {B g n cap:Nat} {gs:List GrI} (hn:gs.length=n) (h:qP3 w B (.slice (some ⟨g,0,none⟩) n cap) gs):QC1 w (some ⟨g,0,none⟩) n gs:=by
 subst hn;have h0:w.ownsRow B 246 3 (.slice (some ⟨g,0,none⟩) gs.length cap) gs.length (qL8 gs):=h;refine ⟨rfl,fun _=>⟨g,0,rfl,fun k x hx=>?_⟩⟩
 have hk:k < gs.length:=by
  by_cases q:k < gs.length
  ·exact q
  ·rw [List.getElem?_eq_none (by omega)] at hx;cases hx
 obtain ⟨f0,f1,f2⟩:=QX8 gs k x hx;rw [Nat.zero_add];exact ⟨(h0.cellAt (k * 3) (by omega)).trans f0,(h0.cellAt (k * 3+1) (by omega)).trans f1,(h0.cellAt (k * 3+2) (by omega)).trans f2⟩
theorem qP3.below {w w':World} {B:Nat} {v:Value} {gs:List GrI} (h:qP3 w B v gs) (hb:Below w.heap.size w w'):qP3 w' B v gs :=
 World.ownsRow.kept (row:=none) h ⟨hb.os,hb.tape,hb.output,hb.size,fun k hk _=>hb.block k hk⟩ (by cases v.ownBlock <;> simp)
theorem QP8 (gs:List GrI) (r:RoI) (s:Int):∀ k,(qQ8 gs r s k).1.length<=k+(if (qQ8 gs r s k).2=true then 1 else 0)
 | 0=>by simp [QU5]
 | k+1=>by
  have ih:=QP8 gs r s k;cases h:gs[k]? with
  | none =>
   have hk:gs.length<=k:=by
    by_cases q:k < gs.length
    ·rw [List.getElem?_eq_getElem q] at h;cases h
    ·omega
   have : qQ8 gs r s (k+1)=qQ8 gs r s k:=by unfold qQ8;rw [List.take_of_length_le (by omega),List.take_of_length_le (by omega)]
   rw [this];omega
  | some x =>
   rw [QU6 h];unfold qJ6;split
   ·simp;split at ih <;> omega
   ·split
    ·rename_i q;rw [q.1] at ih;simp at ih ⊢
     omega
    ·simp only [List.length_append,List.length_singleton];omega
theorem qN5 (W:World) (b:Nat) (hb:b=W.heap.size) (u0 u1 u2:Value) (T:TypeId):∀ j u,[u0,u1,u2][j]? = some u->(W.alloc (.cells #[u0,u1,u2] T)).cell? ((⟨b,0,none⟩:Addr).add j)=some u:=by
 subst hb;intro j u hj;match j,hj with
 | 0,hj=>simp at hj;subst hj;simp [Addr.add]
 | 1,hj=>simp at hj;subst hj;simp [Addr.add]
 | 2,hj=>simp at hj;subst hj;simp [Addr.add]
theorem qZ6 {w:World} {B B':Nat} {v:Value} {gs:List GrI} (h:qP3 w B v gs) (hb:B'<=B):qP3 w B' v gs:=by
 have h0:w.ownsRow B 246 3 v gs.length (qL8 gs):=h;refine ⟨h0.1,?_⟩;rcases h0.2 with h' | ⟨g,cap,cur,e,hg,rest⟩
 ·exact .inl h'
 ·exact .inr ⟨g,cap,cur,e,Nat.le_trans hb hg,rest⟩
theorem qN3 {w:World} {B:Nat} {v:Value} {es:List GrI} {x:GrI} (h:w.ownsRow B 246 3 v (es.length+1) (qL8 es++[.int .i64 x.1.1,.int .i64 x.1.2,.int .i64 x.2])):qP3 w B v (es++[x]):=by
 unfold qP3;rw [List.length_append,qAt];exact h
theorem qK1 {w1 Z w':World} {B:Nat} {v:Value} {es:List GrI} (ho:qP3 Z B v es) (hb:Below B w1 Z) (hg:Z.grownBy w' v.ownBlock) (hB:B<=Z.heap.size):Below B w1 w':=by
 have h0:Z.ownsRow B 246 3 v es.length (qL8 es):=ho;exact hb.grown hg hB (fun j hj=>(h0.lt j hj).1)
theorem qR0 {wr Z w':World} {B b o:Nat} {v u:Value} {es:List GrI} (ho:qP3 wr B v es) (hg:Z.grownBy w' v.ownBlock) (hb:wr.heap.size<=b) (hc:Z.cell? ⟨b,o,none⟩=some u):w'.cell? ⟨b,o,none⟩=some u:=by
 have h0:wr.ownsRow B 246 3 v es.length (qL8 es):=ho;exact hg.cell hc (fun e=>by have:=(h0.lt b e.symm).2;omega)
attribute [local go_sem ↓] qDN
theorem qKq (a:Option Addr) (n c:Nat) (gs:List GrI) (r:RoI) (s:Int) (w:World) (hg:QC1 w a n gs) (hn:n<=1000) (hs:s≠0) :
  Calls Tryz.prog 194 #[.slice a n c,.agg #[.int .i64 r.1,.int .i64 r.2],.int .i64 s] w fun e w'=>∃ g m cap es,e = .returned (.slice (some ⟨g,0,none⟩) m cap)/\es.length=m/\es=QU7 r s (qQ8 gs r s n)/\qP3 w' w.heap.size (.slice (some ⟨g,0,none⟩) m cap) es/\Below w.heap.size w w':=by
 have b1:(s==0)=false:=by simpa using hs
 have hn':(n:Int)<=1000:=by omega
 obtain ⟨i0,hi,hz0,hz1,hz2⟩:=info_parts Tryz.info246;obtain ⟨w1,hw1⟩:∃ w1,w1=w.alloc (.cells #[.int .i64 r.1,.int .i64 r.2] 123):=⟨_,rfl⟩;have hsz:w1.heap.size=w.heap.size+1:=by rw [hw1];simp
 have HB:Hid (Below w.heap.size w w1):=by rw [hw1];exact zN
 have HR:Hid (w1.cell? ⟨w.heap.size,0,none⟩=some (.int .i64 r.1)/\w1.cell? ⟨w.heap.size,1,none⟩=some (.int .i64 r.2)):=by rw [hw1];exact ⟨by simp,by simp⟩
 have HG:Hid (QC1 w1 a n gs):=hg.below HB.out;clear hg;go_enter Tryz.func194,Tryz.ntmps194;go_wp2_with fail
 rw [<- hw1];go_loopw [7,8,9] (fun v d i wr=>∃ (k:Nat) (es:List GrI) (b:Bool),k<=n/\i = .int .i64 (k:Int)/\d = .bool b/\qQ8 gs r s k=(es,b)/\qP3 wr w1.heap.size v es/\v ≠ .slice none 0 0/\Below w1.heap.size w1 wr) (fun _ _ i _=>n - (intOf i).toNat)
 case atStart =>
  exact ⟨0,[],false,Nat.zero_le _,rfl,rfl,QU5 _ _ _,by rw [show w.heap.size+1=w1.heap.size by omega];exact World.ownsRow_lit w1 #[] 0 (Nat.le_refl _) (Nat.zero_le _) rfl,by simp,zN⟩
 case round =>
  obtain ⟨k,es,d,hk,rfl,rfl,hat,hown,hnn,hnx⟩:=hrel;by_cases hlt:k < n
  ·obtain ⟨b,off,x,e,hx,⟨c0,c1,c2⟩,hbl⟩:=(HG.out.below hnx).at hlt
   obtain ⟨r0,r1⟩:=HR.out;replace r0:=(hnx.cell (p:=⟨w.heap.size,0,none⟩) (by show w.heap.size < _;omega)).trans r0
   replace r1:=(hnx.cell (p:=⟨w.heap.size,1,none⟩) (by show w.heap.size < _;omega)).trans r1
   subst e;have hlt':(k:Int) < (n:Int):=by omega
   go_upto_region 9 with fail
   obtain ⟨X,hX⟩:∃ X,X=wr.alloc (.cells #[.int .i64 x.1.1,.int .i64 x.1.2,.int .i64 x.2] 246):=⟨_,rfl⟩;rw [<- hX];have hbX:Below wr.heap.size wr X:=by rw [hX];exact zN
   have x0:X.cell? ⟨wr.heap.size,0,none⟩=some (.int .i64 x.1.1):=by rw [hX];simp
   have x1:X.cell? ⟨wr.heap.size,1,none⟩=some (.int .i64 x.1.2):=by rw [hX];simp
   have x2:X.cell? ⟨wr.heap.size,2,none⟩=some (.int .i64 x.2):=by rw [hX];simp
   have x3:X.frozen? ⟨wr.heap.size,2,none⟩=false:=by rw [hX];simp
   have hXs:X.heap.size=wr.heap.size+1:=by rw [hX];simp
   have hwr:w1.heap.size<=wr.heap.size:=hnx.size;replace r0:=(hbX.cell (p:=⟨w.heap.size,0,none⟩) (by show w.heap.size < _;omega)).trans r0
   replace r1:=(hbX.cell (p:=⟨w.heap.size,1,none⟩) (by show w.heap.size < _;omega)).trans r1
   have HO:Hid (qP3 wr w1.heap.size u7 es):=hown;have HAT:Hid (qQ8 gs r s (k+1)=qJ6 r s (es,d) x):=by show qQ8 gs r s (k+1)=_;rw [QU6 hx,hat]
   have HLE:Hid (es.length<=k+1):=by
    have:=QP8 gs r s k;rw [hat] at this;show es.length<=k+1
    split at this <;> simp_all <;> omega
   clear hX hown hat hx c0 c1 c2;have hnX:Below w1.heap.size w1 X:=hnx.trans (hbX.mono hwr);by_cases qe:x.1=r
   ·have he:qFa x.1 r=true:=(qT3 _ _).2 qe;have HN:Hid (qQ8 gs r s (k+1)=(es++[(x.1,orI x.2 s)],true)):=by show qQ8 gs r s (k+1)=_;rw [HAT.out];simp [qJ6,qe]
    clear HAT qe;go_wp2_with (first | (at_builtin;refine wpList_append_own _ rfl _ _ 224 rfl w1.heap.size 246 i0 (.agg #[.int .i64 0,.int .i64 0,.int .i64 0]) 3 24 Tryz.under224 hi hz0 hz1 hz2 rfl (by decide) u7 (es.length) (qL8 es) rfl ?c0 ⟨_,0,none⟩ 1 1 [.int .i64 x.1.1,.int .i64 x.1.2,.int .i64 (orI x.2 s)] rfl rfl ?c1 ?c2 ?c3 ?c4 ?c5 ?_))
    case c0=>exact HO.out.below ((hbX.setCell (p:=⟨wr.heap.size,2,none⟩) (Nat.le_refl _) _).alloc (by simp;omega) _)
    case c1=>exact qN5 _ _ (by first | rfl | simp [hXs] | simp) _ _ _ _
    case c2=>intro u hu;simp at hu;rcases hu with rfl | rfl | rfl <;> rfl
    case c3=>have:=HLE.out;unfold maxLen;omega
    case c4=>have:=HLE.out;omega
    case c5=>simp;omega
    ·intro v' w' hown' hgrow hnil;have R1:Hid (qP3 w' w1.heap.size v' (es++[(x.1,orI x.2 s)])):=by show qP3 w' w1.heap.size v' _;rw [hsz];exact qN3 hown'
     have R2:Hid (Below w1.heap.size w1 w'):=qK1 (HO.out.below ((hbX.setCell (p:=⟨wr.heap.size,2,none⟩) (Nat.le_refl _) _).alloc (by simp;omega) _)) ((hnX.setCell (p:=⟨wr.heap.size,2,none⟩) hwr _).alloc (by simp;omega) _) hgrow (by simp;omega);have hnn':v' ≠ .slice none 0 0:=by first | exact hnil | simpa using hnil
     clear hown' hgrow hnil;go_wp2;go_roundw
     case rel=>exact ⟨k+1,_,_,by omega,by go_num,rfl,HN.out,R1.out,hnn',R2.out⟩
     case measure=>simp [intOf];omega
   ·have he:qFa x.1 r=false:=by
     cases q:qFa x.1 r
     ·rfl
     ·exact absurd ((qT3 _ _).1 q) qe
    have HQ:Hid (x.1≠r):=qe;clear qe;by_cases qd:d=false/\ltR r x.1=true
    ·obtain ⟨rfl,ql⟩:=qd;have HN:Hid (qQ8 gs r s (k+1)=(es++[(r,s)]++[x],true)):=by show qQ8 gs r s (k+1)=_;rw [HAT.out];simp [qJ6,HQ.out,ql]
     clear HAT;have hc1:X.cell? ⟨w.heap.size,0,none⟩=some (.int .i64 r.1):=r0
     have hcase:r.1 < x.1.1\/(¬ r.1 < x.1.1/\x.1.1=r.1/\r.2 < x.1.2):=by
      simp [ltR] at ql;omega
     clear ql;rcases hcase with q1 | ⟨q1,q2,q3⟩
     ·have g1:decide (r.1 < x.1.1)=true:=by simpa using q1
      clear q1;go_wp2_with (first | (at_builtin;refine wpList_append_own _ rfl _ _ 224 rfl w1.heap.size 246 i0 (.agg #[.int .i64 0,.int .i64 0,.int .i64 0]) 3 24 Tryz.under224 hi hz0 hz1 hz2 rfl (by decide) u7 (es.length) (qL8 es) rfl ?c0 ⟨_,0,none⟩ 1 1 [.int .i64 r.1,.int .i64 r.2,.int .i64 s] rfl rfl ?c1 ?c2 ?c3 ?c4 ?c5 ?_))
      case c0=>exact HO.out.below (hbX.alloc (by omega) _)
      case c1=>exact qN5 _ _ (by first | rfl | simp [hXs] | simp) _ _ _ _
      case c2=>intro u hu;simp at hu;rcases hu with rfl | rfl | rfl <;> rfl
      case c3=>have:=HLE.out;unfold maxLen;omega
      case c4=>have:=HLE.out;omega
      case c5=>simp;omega
      ·intro v' w' hown' hgrow hnil;have R1:Hid (qP3 w' w1.heap.size v' (es++[(r,s)])):=by show qP3 w' w1.heap.size v' _;rw [hsz];exact qN3 (x:=(r,s)) hown'
       have R2:Hid (Below w1.heap.size w1 w'):=qK1 (HO.out.below (hbX.alloc (by omega) _)) (hnX.alloc (by omega) _) hgrow (by simp;omega);have hnn':v' ≠ .slice none 0 0:=by first | exact hnil | simpa using hnil
       have hX2:=(Below.refl X.heap.size X).alloc (Nat.le_refl _) (.cells #[.int .i64 r.1,.int .i64 r.2,.int .i64 s] 246);have y0:=qR0 HO.out hgrow (Nat.le_refl _) ((hX2.cell (p:=⟨wr.heap.size,0,none⟩) (by show wr.heap.size < _;omega)).trans x0);have y1:=qR0 HO.out hgrow (Nat.le_refl _) ((hX2.cell (p:=⟨wr.heap.size,1,none⟩) (by show wr.heap.size < _;omega)).trans x1);have y2:=qR0 HO.out hgrow (Nat.le_refl _) ((hX2.cell (p:=⟨wr.heap.size,2,none⟩) (by show wr.heap.size < _;omega)).trans x2);have hs2:=R2.out.size;have HLE2:Hid ((es++[(r,s)]).length<=k+2):=by show (es++[(r,s)]).length<=k+2;have:=HLE.out;simp;omega
       clear hown' hgrow hnil hX2;go_wp2_with (first | (at_builtin;refine wpList_append_own _ rfl _ _ 224 rfl w1.heap.size 246 i0 (.agg #[.int .i64 0,.int .i64 0,.int .i64 0]) 3 24 Tryz.under224 hi hz0 hz1 hz2 rfl (by decide) v' ((es++[(r,s)]).length) (qL8 (es++[(r,s)])) rfl ?c0 ⟨_,0,none⟩ 1 1 [.int .i64 x.1.1,.int .i64 x.1.2,.int .i64 x.2] rfl rfl ?c1 ?c2 ?c3 ?c4 ?c5 ?_))
       case c0=>exact R1.out.below (zN)
       case c1=>exact qN5 _ _ (by first | rfl | simp) _ _ _ _
       case c2=>intro u hu;simp at hu;rcases hu with rfl | rfl | rfl <;> rfl
       case c3=>have:=HLE2.out;unfold maxLen;omega
       case c4=>have:=HLE2.out;omega
       case c5=>simp;omega
       ·intro v2 w2 hown' hgrow hnil;have R3:Hid (qP3 w2 w1.heap.size v2 (es++[(r,s)]++[x])):=by show qP3 w2 w1.heap.size v2 _;rw [hsz];exact qN3 (by rw [List.length_append];exact hown')
        have R4:Hid (Below w1.heap.size w1 w2):=qK1 (R1.out.below (zN)) (R2.out.alloc (by omega) _) hgrow (by simp;omega);have hnn2:v2 ≠ .slice none 0 0:=by first | exact hnil | simpa using hnil
        clear hown' hgrow hnil;go_wp2;go_roundw
        case rel=>exact ⟨k+1,_,_,by omega,by go_num,rfl,HN.out,R3.out,hnn2,R4.out⟩
        case measure=>simp [intOf];omega
     ·have g1:decide (r.1 < x.1.1)=false:=by simpa using q1
      have g2:(x.1.1==r.1)=true:=by simpa using q2
      have g3:decide (r.2 < x.1.2)=true:=by simpa using q3
      clear q1 q2 q3;go_wp2_with (first | (at_builtin;refine wpList_append_own _ rfl _ _ 224 rfl w1.heap.size 246 i0 (.agg #[.int .i64 0,.int .i64 0,.int .i64 0]) 3 24 Tryz.under224 hi hz0 hz1 hz2 rfl (by decide) u7 (es.length) (qL8 es) rfl ?c0 ⟨_,0,none⟩ 1 1 [.int .i64 r.1,.int .i64 r.2,.int .i64 s] rfl rfl ?c1 ?c2 ?c3 ?c4 ?c5 ?_))
      case c0=>exact HO.out.below (hbX.alloc (by omega) _)
      case c1=>exact qN5 _ _ (by first | rfl | simp [hXs] | simp) _ _ _ _
      case c2=>intro u hu;simp at hu;rcases hu with rfl | rfl | rfl <;> rfl
      case c3=>have:=HLE.out;unfold maxLen;omega
      case c4=>have:=HLE.out;omega
      case c5=>simp;omega
      ·intro v' w' hown' hgrow hnil;have R1:Hid (qP3 w' w1.heap.size v' (es++[(r,s)])):=by show qP3 w' w1.heap.size v' _;rw [hsz];exact qN3 (x:=(r,s)) hown'
       have R2:Hid (Below w1.heap.size w1 w'):=qK1 (HO.out.below (hbX.alloc (by omega) _)) (hnX.alloc (by omega) _) hgrow (by simp;omega);have hnn':v' ≠ .slice none 0 0:=by first | exact hnil | simpa using hnil
       have hX2:=(Below.refl X.heap.size X).alloc (Nat.le_refl _) (.cells #[.int .i64 r.1,.int .i64 r.2,.int .i64 s] 246);have y0:=qR0 HO.out hgrow (Nat.le_refl _) ((hX2.cell (p:=⟨wr.heap.size,0,none⟩) (by show wr.heap.size < _;omega)).trans x0);have y1:=qR0 HO.out hgrow (Nat.le_refl _) ((hX2.cell (p:=⟨wr.heap.size,1,none⟩) (by show wr.heap.size < _;omega)).trans x1);have y2:=qR0 HO.out hgrow (Nat.le_refl _) ((hX2.cell (p:=⟨wr.heap.size,2,none⟩) (by show wr.heap.size < _;omega)).trans x2);have hs2:=R2.out.size;have HLE2:Hid ((es++[(r,s)]).length<=k+2):=by show (es++[(r,s)]).length<=k+2;have:=HLE.out;simp;omega
       clear hown' hgrow hnil hX2;go_wp2_with (first | (at_builtin;refine wpList_append_own _ rfl _ _ 224 rfl w1.heap.size 246 i0 (.agg #[.int .i64 0,.int .i64 0,.int .i64 0]) 3 24 Tryz.under224 hi hz0 hz1 hz2 rfl (by decide) v' ((es++[(r,s)]).length) (qL8 (es++[(r,s)])) rfl ?c0 ⟨_,0,none⟩ 1 1 [.int .i64 x.1.1,.int .i64 x.1.2,.int .i64 x.2] rfl rfl ?c1 ?c2 ?c3 ?c4 ?c5 ?_))
       case c0=>exact R1.out.below (zN)
       case c1=>exact qN5 _ _ (by first | rfl | simp) _ _ _ _
       case c2=>intro u hu;simp at hu;rcases hu with rfl | rfl | rfl <;> rfl
       case c3=>have:=HLE2.out;unfold maxLen;omega
       case c4=>have:=HLE2.out;omega
       case c5=>simp;omega
       ·intro v2 w2 hown' hgrow hnil;have R3:Hid (qP3 w2 w1.heap.size v2 (es++[(r,s)]++[x])):=by show qP3 w2 w1.heap.size v2 _;rw [hsz];exact qN3 (by rw [List.length_append];exact hown')
        have R4:Hid (Below w1.heap.size w1 w2):=qK1 (R1.out.below (zN)) (R2.out.alloc (by omega) _) hgrow (by simp;omega);have hnn2:v2 ≠ .slice none 0 0:=by first | exact hnil | simpa using hnil
        clear hown' hgrow hnil;go_wp2;go_roundw
        case rel=>exact ⟨k+1,_,_,by omega,by go_num,rfl,HN.out,R3.out,hnn2,R4.out⟩
        case measure=>simp [intOf];omega
    ·have HN:Hid (qQ8 gs r s (k+1)=(es++[x],d)):=by
      show qQ8 gs r s (k+1)=_
      rw [HAT.out];unfold qJ6;rw [if_neg HQ.out,if_neg qd]
     clear HAT
     have hcase:d=true\/(d=false/\¬ r.1 < x.1.1/\x.1.1≠r.1)\/(d=false/\¬ r.1 < x.1.1/\x.1.1=r.1/\¬ r.2 < x.1.2):=by
      cases d
      ·have q1:¬ r.1 < x.1.1:=fun h=>qd ⟨rfl,by simp [ltR,h]⟩
       have q3:x.1.1=r.1->¬ r.2 < x.1.2:=fun e h=>qd ⟨rfl,by simp [ltR,e,h]⟩
       by_cases e:x.1.1=r.1
       ·exact .inr (.inr ⟨rfl,q1,e,q3 e⟩)
       ·exact .inr (.inl ⟨rfl,q1,e⟩)
      ·exact .inl rfl
     clear qd;rcases hcase with rfl | ⟨rfl,q1,q2⟩ | ⟨rfl,q1,q2,q3⟩
     ·skip
      go_wp2_with (first | (at_builtin;refine wpList_append_own _ rfl _ _ 224 rfl w1.heap.size 246 i0 (.agg #[.int .i64 0,.int .i64 0,.int .i64 0]) 3 24 Tryz.under224 hi hz0 hz1 hz2 rfl (by decide) u7 (es.length) (qL8 es) rfl ?c0 ⟨_,0,none⟩ 1 1 [.int .i64 x.1.1,.int .i64 x.1.2,.int .i64 x.2] rfl rfl ?c1 ?c2 ?c3 ?c4 ?c5 ?_))
      case c0=>exact HO.out.below (hbX.alloc (by omega) _)
      case c1=>exact qN5 _ _ (by first | rfl | simp [hXs] | simp) _ _ _ _
      case c2=>intro u hu;simp at hu;rcases hu with rfl | rfl | rfl <;> rfl
      case c3=>have:=HLE.out;unfold maxLen;omega
      case c4=>have:=HLE.out;omega
      case c5=>simp;omega
      ·intro v' w' hown' hgrow hnil;have R1:Hid (qP3 w' w1.heap.size v' (es++[x])):=by show qP3 w' w1.heap.size v' _;rw [hsz];exact qN3 hown'
       have R2:Hid (Below w1.heap.size w1 w'):=qK1 (HO.out.below (hbX.alloc (by omega) _)) (hnX.alloc (by omega) _) hgrow (by simp;omega);have hnn':v' ≠ .slice none 0 0:=by first | exact hnil | simpa using hnil
       clear hown' hgrow hnil;go_wp2;go_roundw
       case rel=>exact ⟨k+1,_,_,by omega,by go_num,rfl,HN.out,R1.out,hnn',R2.out⟩
       case measure=>simp [intOf];omega
     ·have g1:decide (r.1 < x.1.1)=false:=by simpa using q1
      have g2:(x.1.1==r.1)=false:=by simpa using q2
      clear q1 q2;go_wp2_with (first | (at_builtin;refine wpList_append_own _ rfl _ _ 224 rfl w1.heap.size 246 i0 (.agg #[.int .i64 0,.int .i64 0,.int .i64 0]) 3 24 Tryz.under224 hi hz0 hz1 hz2 rfl (by decide) u7 (es.length) (qL8 es) rfl ?c0 ⟨_,0,none⟩ 1 1 [.int .i64 x.1.1,.int .i64 x.1.2,.int .i64 x.2] rfl rfl ?c1 ?c2 ?c3 ?c4 ?c5 ?_))
      case c0=>exact HO.out.below (hbX.alloc (by omega) _)
      case c1=>exact qN5 _ _ (by first | rfl | simp [hXs] | simp) _ _ _ _
      case c2=>intro u hu;simp at hu;rcases hu with rfl | rfl | rfl <;> rfl
      case c3=>have:=HLE.out;unfold maxLen;omega
      case c4=>have:=HLE.out;omega
      case c5=>simp;omega
      ·intro v' w' hown' hgrow hnil;have R1:Hid (qP3 w' w1.heap.size v' (es++[x])):=by show qP3 w' w1.heap.size v' _;rw [hsz];exact qN3 hown'
       have R2:Hid (Below w1.heap.size w1 w'):=qK1 (HO.out.below (hbX.alloc (by omega) _)) (hnX.alloc (by omega) _) hgrow (by simp;omega);have hnn':v' ≠ .slice none 0 0:=by first | exact hnil | simpa using hnil
       clear hown' hgrow hnil;go_wp2;go_roundw
       case rel=>exact ⟨k+1,_,_,by omega,by go_num,rfl,HN.out,R1.out,hnn',R2.out⟩
       case measure=>simp [intOf];omega
     ·have g1:decide (r.1 < x.1.1)=false:=by simpa using q1
      have g2:(x.1.1==r.1)=true:=by simpa using q2
      have g3:decide (r.2 < x.1.2)=false:=by simpa using q3
      clear q1 q2 q3;go_wp2_with (first | (at_builtin;refine wpList_append_own _ rfl _ _ 224 rfl w1.heap.size 246 i0 (.agg #[.int .i64 0,.int .i64 0,.int .i64 0]) 3 24 Tryz.under224 hi hz0 hz1 hz2 rfl (by decide) u7 (es.length) (qL8 es) rfl ?c0 ⟨_,0,none⟩ 1 1 [.int .i64 x.1.1,.int .i64 x.1.2,.int .i64 x.2] rfl rfl ?c1 ?c2 ?c3 ?c4 ?c5 ?_))
      case c0=>exact HO.out.below (hbX.alloc (by omega) _)
      case c1=>exact qN5 _ _ (by first | rfl | simp [hXs] | simp) _ _ _ _
      case c2=>intro u hu;simp at hu;rcases hu with rfl | rfl | rfl <;> rfl
      case c3=>have:=HLE.out;unfold maxLen;omega
      case c4=>have:=HLE.out;omega
      case c5=>simp;omega
      ·intro v' w' hown' hgrow hnil;have R1:Hid (qP3 w' w1.heap.size v' (es++[x])):=by show qP3 w' w1.heap.size v' _;rw [hsz];exact qN3 hown'
       have R2:Hid (Below w1.heap.size w1 w'):=qK1 (HO.out.below (hbX.alloc (by omega) _)) (hnX.alloc (by omega) _) hgrow (by simp;omega);have hnn':v' ≠ .slice none 0 0:=by first | exact hnil | simpa using hnil
       clear hown' hgrow hnil;go_wp2;go_roundw
       case rel=>exact ⟨k+1,_,_,by omega,by go_num,rfl,HN.out,R1.out,hnn',R2.out⟩
       case measure=>simp [intOf];omega
  ·have hkn:k=n:=by omega
   subst hkn;cases d
   ·obtain ⟨r0,r1⟩:=HR.out;replace r0:=(hnx.cell (p:=⟨w.heap.size,0,none⟩) (by show w.heap.size < _;omega)).trans r0
    replace r1:=(hnx.cell (p:=⟨w.heap.size,1,none⟩) (by show w.heap.size < _;omega)).trans r1
    have HO:Hid (qP3 wr w1.heap.size u7 es):=hown
    have HLE:Hid (es.length<=k+1):=by
     have:=QP8 gs r s k;rw [hat] at this;show es.length<=k+1
     simp at this;omega
    have HAT:Hid (qQ8 gs r s k=(es,false)):=hat;have hwr:w1.heap.size<=wr.heap.size:=hnx.size;clear hown hat;go_wp2_with (first | (at_builtin;refine wpList_append_own _ rfl _ _ 224 rfl w1.heap.size 246 i0 (.agg #[.int .i64 0,.int .i64 0,.int .i64 0]) 3 24 Tryz.under224 hi hz0 hz1 hz2 rfl (by decide) u7 (es.length) (qL8 es) rfl ?c0 ⟨_,0,none⟩ 1 1 [.int .i64 r.1,.int .i64 r.2,.int .i64 s] rfl rfl ?c1 ?c2 ?c3 ?c4 ?c5 ?_))
    case c0=>exact HO.out.below (zN)
    case c1=>exact qN5 _ _ (by first | rfl | simp) _ _ _ _
    case c2=>intro u hu;simp at hu;rcases hu with rfl | rfl | rfl <;> rfl
    case c3=>have:=HLE.out;unfold maxLen;omega
    case c4=>have:=HLE.out;omega
    case c5=>simp;omega
    ·intro v' w' hown' hgrow hnil;have R1:qP3 w' w1.heap.size v' (es++[(r,s)]):=by rw [hsz];exact qN3 (x:=(r,s)) hown'
     have R2:Hid (Below w1.heap.size w1 w'):=qK1 (HO.out.below (zN)) (hnx.alloc (by omega) _) hgrow (by simp;omega);have hnn':v' ≠ .slice none 0 0:=by first | exact hnil | simpa using hnil
     obtain ⟨g,cap,rfl⟩:=R1.shape hnn';have HR1:Hid (qP3 w' w1.heap.size (.slice (some ⟨g,0,none⟩) (es++[(r,s)]).length cap) (es++[(r,s)])):=R1;clear hown' hgrow hnil R1;go_wp2;go_ret;exact ⟨g,_,cap,es++[(r,s)],rfl,rfl,by rw [HAT.out];rfl,qZ6 HR1.out (by omega),HB.out.trans (R2.out.mono (by omega))⟩
   ·obtain ⟨g,cap,rfl⟩:=hown.shape hnn;have HO:Hid (qP3 wr w1.heap.size (.slice (some ⟨g,0,none⟩) es.length cap) es):=hown;have HAT:Hid (qQ8 gs r s k=(es,true)):=hat;clear hown hat;go_wp2;go_ret;exact ⟨g,_,cap,es,rfl,rfl,by rw [HAT.out];rfl,qZ6 HO.out (by omega),HB.out.trans (hnx.mono (by omega))⟩
theorem qKr (B:Nat) (g n c:Nat) (gs:List GrI) (r:RoI) (s:Int) (w:World) (hz:gs.length=n) (ho:qP3 w B (.slice (some ⟨g,0,none⟩) n c) gs) (hg:SG gs) (hB:B<=w.heap.size) :
  Calls Tryz.prog 194 #[.slice (some ⟨g,0,none⟩) n c,.agg #[.int .i64 r.1,.int .i64 r.2],.int .i64 s] w fun e w'=>∃ g' m cap,e = .returned (.slice (some ⟨g',0,none⟩) m cap)/\(QP9 gs r s).length=m/\qP3 w' B (.slice (some ⟨g',0,none⟩) m cap) (QP9 gs r s)/\Below w.heap.size w w':=by
 by_cases hs:s=0
 ·subst hs;have HO:Hid (qP3 w B (.slice (some ⟨g,0,none⟩) n c) gs):=ho;have HZ:Hid (gs.length=n):=hz;clear ho hz;go_enter Tryz.func194,Tryz.ntmps194;go_wp2;go_ret;have e:QP9 gs r 0=gs:=by simp [QP9]
  have hb:Below w.heap.size w (w.alloc (.cells #[.int .i64 r.1,.int .i64 r.2] 123)):=zN;rw [e];exact ⟨g,n,c,rfl,HZ.out,HO.out.below hb,hb⟩
 ·have hl:=QS1 hg;refine (qKq (some ⟨g,0,none⟩) n c gs r s w (ho.read hz) (by omega) hs).mono ?_;rintro e w' ⟨g',m,cap,es,rfl,hm,hes,hown,hb⟩;have e2:es=QP9 gs r s:=by rw [hes,<- hz,qHm hg,QP9,if_neg hs]
  subst e2;exact ⟨g',m,cap,rfl,hm,qZ6 hown hB,hb⟩
end

theorem qFN {w:World} {b off n:Nat} {gs:List GrI} (h:QC1 w (some ⟨b,off,none⟩) n gs):∀ j u,(qL8 gs)[j]? = some u->w.cell? ((⟨b,off,none⟩:Addr).add j)=some u:=by
 intro j u hj
 have hjl:j < gs.length * 3:=by
  by_cases q:j < gs.length * 3
  ·exact q
  ·rw [List.getElem?_eq_none (by rw [qAs];omega)] at hj;cases hj
 have hk:j / 3 < n:=by rw [<- h.1];omega
 obtain ⟨b',off',x,e,hx,⟨c0,c1,c2⟩,_⟩:=h.at hk
 cases e;obtain ⟨f0,f1,f2⟩:=QX8 gs (j / 3) x hx;rw [Go.WideShapes.add_plain];have hm:j=j / 3 * 3\/j=j / 3 * 3+1\/j=j / 3 * 3+2:=by omega
 rcases hm with e | e | e
 ·rw [e,f0] at hj;rw [e,<- hj];exact c0
 ·rw [e,f1] at hj;rw [e,<- hj,<- Nat.add_assoc];exact c1
 ·rw [e,f2] at hj;rw [e,<- hj,<- Nat.add_assoc];exact c2
theorem qIv (b0 off0 n c:Nat) (gs:List GrI) (a:Option Addr) (m d:Nat) (zs:List qA2) (w:World) (hg:QC1 w (some ⟨b0,off0,none⟩) n gs) (hs:SG gs) (hr:qB8 w a m zs) (hm:m<=1000) (hz:∀ z∈zs,okR z/\1<=z.k/\z.k<=4) :
  Calls Tryz.prog 178 #[.slice a m d,.slice (some ⟨b0,off0,none⟩) n c] w fun e w'=>∃ g l cap,e = .returned (.slice (some ⟨g,0,none⟩) l cap)/\(qO1 zs gs).length=l/\qP3 w' w.heap.size (.slice (some ⟨g,0,none⟩) l cap) (qO1 zs gs)/\Below w.heap.size w w':=by
 have hn:n<=40:=by rw [<- hg.1];exact QS1 hs
 obtain ⟨i0,hi,hz0,hz1,hz2⟩:=info_parts Tryz.info246;have HG:Hid (QC1 w (some ⟨b0,off0,none⟩) n gs):=hg;have HS:Hid (SG gs):=hs;have HR:Hid (qB8 w a m zs):=hr;have HZ:Hid (∀ z∈zs,okR z/\1<=z.k/\z.k<=4):=hz;clear hg hs hr hz;have hn':(n:Int)<=40:=by omega
 have hm':(m:Int)<=1000:=by omega
 go_enter Tryz.func178,Tryz.ntmps178;go_wp2_with (first | (at_builtin;refine wpList_append_own _ rfl _ _ 224 rfl w.heap.size 246 i0 (.agg #[.int .i64 0,.int .i64 0,.int .i64 0]) 3 24 Tryz.under224 hi hz0 hz1 hz2 rfl (by decide) (.slice (some ⟨w.heap.size,0,none⟩) 0 0) 0 [] rfl ?c0 ⟨b0,off0,none⟩ n c (qL8 gs) rfl ?cl ?c1 ?c2 ?c3 ?c4 ?c5 ?_))
 case c0=>exact World.ownsRow_lit w #[] 0 (Nat.le_refl _) (Nat.zero_le _) rfl
 case cl=>rw [qAs,HG.out.1]
 case c1=>exact qFN (HG.out.below (zN))
 case c2=>exact qHU gs
 case c3=>unfold maxLen;omega
 case c4=>omega
 case c5=>simp
 ·intro v1 w1 hown hgrow hnil
  have R1:qP3 w1 w.heap.size v1 gs:=by
   unfold qP3;rw [HG.out.1];simpa using hown
  have R2:Hid (Below w.heap.size w w1):=(zN).grown hgrow (by simp) (fun j hj=>by simp [Value.ownBlock] at hj;omega);have hnn:v1 ≠ .slice none 0 0:=by first | exact hnil | simpa using hnil
  obtain ⟨g1,cap1,rfl⟩:=R1.shape hnn;have HO:Hid (qP3 w1 w.heap.size (.slice (some ⟨g1,0,none⟩) gs.length cap1) gs):=R1;clear R1 hown hgrow hnil hnn;go_wp2;go_loopw [5,6] (fun v i wr=>∃ k l g cap:Nat,k<=m/\i = .int .i64 (k:Int)/\v = .slice (some ⟨g,0,none⟩) l cap/\(qN9 zs gs k).length=l/\qP3 wr w.heap.size (.slice (some ⟨g,0,none⟩) l cap) (qN9 zs gs k)/\Below w.heap.size w wr) (fun _ i _=>m - (intOf i).toNat)
  case atStart=>exact ⟨0,_,g1,cap1,Nat.zero_le _,rfl,rfl,by rw [QK4],by rw [QK4];exact HO.out,R2.out⟩
  case round =>
   obtain ⟨k,l,g,cap,hk,rfl,rfl,hl,hown,hnx⟩:=hrel;by_cases hlt:k < m
   ·obtain ⟨b,off,z,e,hzk,hra⟩:=(HR.out.below hnx).at hlt
    subst e;have hzm:z∈zs:=List.mem_of_getElem? hzk;have HE:Hid (qN9 zs gs (k+1)=QP9 (qN9 zs gs k) (z.ho,z.hn) (byF (ofG gs) z)):=qBc hzk gs
    have HBY:Hid (∀ W:World,((∀ b o,b < wr.heap.size->W.cell? ⟨b,o,none⟩=wr.cell? ⟨b,o,none⟩)/\Below wr.heap.size wr W)->Calls Tryz.prog 195 #[.slice (some ⟨b0,off0,none⟩) n c,.pointer (some ⟨b,off+k * 8,none⟩)] W fun e w'=>e = .returned (.int .i64 (byF (ofG gs) z))/\Below W.heap.size W w'):=fun W hW =>
     qLt _ _ _ gs b (off+k * 8) z W ((HG.out.below hnx).below hW.2) (by omega) (hra.below hW.2) (qY5 HS.out) (HZ.out z hzm).1 (HZ.out z hzm).2
    have HAD:Hid (∀ W:World,((∀ b o,b < wr.heap.size->W.cell? ⟨b,o,none⟩=wr.cell? ⟨b,o,none⟩)/\Below wr.heap.size wr W)->Calls Tryz.prog 194 #[.slice (some ⟨g,0,none⟩) l cap,.agg #[.int .i64 z.ho,.int .i64 z.hn],.int .i64 (byF (ofG gs) z)] W fun e w'=>∃ g' m' cap',e = .returned (.slice (some ⟨g',0,none⟩) m' cap')/\(qN9 zs gs (k+1)).length=m'/\qP3 w' w.heap.size (.slice (some ⟨g',0,none⟩) m' cap') (qN9 zs gs (k+1))/\Below W.heap.size W w'):=fun W hW=>by
     rw [HE.out];exact qKr w.heap.size g l cap _ (z.ho,z.hn) _ W hl (hown.below hW.2) (qFt (fun z h=>(HZ.out z h).1) HS.out k) (Nat.le_trans hnx.size hW.2.size)
    obtain ⟨h0,h1,h2,_⟩:=hra;have hbb:b < wr.heap.size:=zL wr ⟨b,off+k * 8,none⟩ h0;have hlt':(k:Int) < (m:Int):=by omega
    clear hown hl HE hzm hzk;go_wp2_with fail
    go_region_held3 (fun w'=>(∀ b o,b < wr.heap.size->w'.cell? ⟨b,o,none⟩=wr.cell? ⟨b,o,none⟩)/\Below wr.heap.size wr w') (first | exact hS | exact qC1 _)
     (first
      | (go_at_call 195;refine (HBY.out _ (by assumption)).mono ?_;rintro e w' ⟨rfl,hb1⟩;have hS:=qA9 (by assumption) hb1)
      | (go_at_call 194;refine (HAD.out _ (by assumption)).mono ?_;rintro e w' ⟨g',m',cap',rfl,hl',hown',hb1⟩;have hS:=qA9 (by assumption) hb1))
    go_wp2;exact ⟨⟨k+1,m',g',cap',by omega,by go_num,rfl,hl',hown',hnx.trans (hS.2.mono hnx.size)⟩,by simp [intOf];omega⟩
   ·have hkn:k=m:=by omega
    subst hkn;have E:Hid (qN9 zs gs k=qO1 zs gs):=by show qN9 zs gs k=_;rw [qO1,HR.out.1]
    have HO2:Hid (qP3 wr w.heap.size (.slice (some ⟨g,0,none⟩) l cap) (qO1 zs gs)):=by rw [<- E.out];exact hown
    have HL:Hid ((qO1 zs gs).length=l):=by rw [<- E.out];exact hl
    clear hown hl E;go_wp2;go_ret;exact ⟨g,l,cap,rfl,HL.out,HO2.out,hnx⟩

section
def qMg (p q:GrI):Bool:=p.1.1==q.1.1&&p.1.2==q.1.2&&p.2==q.2
theorem qDu (p q:GrI):qMg p q=true↔p=q:=by
 obtain ⟨⟨a,b⟩,c⟩:=p;obtain ⟨⟨d,e⟩,f⟩:=q;simp [qMg,and_assoc]
theorem qMA (p q:GrI) (w:World):(binOp .neq 246 (.agg #[.int .i64 p.1.1,.int .i64 p.1.2,.int .i64 p.2]) (.agg #[.int .i64 q.1.1,.int .i64 q.1.2,.int .i64 q.2])).run Tryz.prog w = .ok (.bool (!qMg p q)) w:=by
 obtain ⟨⟨a0,a1⟩,a2⟩:=p;obtain ⟨⟨b0,b1⟩,b2⟩:=q;simp only [qMg];cases e0:(a0==b0)
 ·simp [go_sem,e0]
 cases e1:(a1==b1)
 ·simp [go_sem,e0,e1]
 cases e2:(a2==b2)
 ·simp [go_sem,e0,e1,e2]
 ·simp [go_sem,e0,e1,e2]
attribute [local go_sem ↓] qMA
theorem bd0 (w:World) (m:Nat):Below w.heap.size w (w.drewN m):=bdN (Below.refl _ _) _
theorem qIw (a b:Option Addr) (n m c d:Nat) (xs ys:List GrI) (w:World) (hx:QC1 w a n xs) (hy:QC1 w b m ys) (hn:n<=1000) (hm:m<=1000) :
  Calls Tryz.prog 179 #[.slice a n c,.slice b m d] w fun e w'=>e = .returned (.bool (decide (xs=ys)))/\Below w.heap.size w w':=by
 have HX:Hid (QC1 w a n xs):=hx;have HY:Hid (QC1 w b m ys):=hy;clear hx hy;have hn':(n:Int)<=1000:=by omega
 have hm':(m:Int)<=1000:=by omega
 by_cases hnm:n=m
 ·subst hnm;go_enter Tryz.func179,Tryz.ntmps179;go_wp2;go_loopw [5] (fun i wr=>∃ k:Nat,k<=n/\i = .int .i64 (k:Int)/\xs.take k=ys.take k/\∃ q,wr=w.drewN q) (fun i _=>n - (intOf i).toNat)
  case atStart=>exact ⟨0,Nat.zero_le _,rfl,by simp,0,rfl⟩
  case round =>
   obtain ⟨k,hk,rfl,htk,q,rfl⟩:=hrel;have HT:Hid (xs.take k=ys.take k):=htk;clear htk;by_cases hlt:k < n
   ·obtain ⟨b1,o1,x,e1,hx1,⟨c0,c1,c2⟩,_⟩:=HX.out.at hlt
    obtain ⟨b2,o2,y,e2,hy1,⟨d0,d1,d2⟩,_⟩:=HY.out.at hlt
    subst e1 e2;have hkx:k < xs.length:=by rw [HX.out.1];exact hlt
    have hky:k < ys.length:=by rw [HY.out.1];exact hlt
    have ex:xs[k]=x:=by rw [List.getElem?_eq_getElem hkx] at hx1;exact Option.some.inj hx1
    have ey:ys[k]=y:=by rw [List.getElem?_eq_getElem hky] at hy1;exact Option.some.inj hy1
    have hlt':(k:Int) < (n:Int):=by omega
    cases he:qMg x y
    ·have HN:Hid (decide (xs=ys)=false):=by
      show decide (xs=ys)=false
      refine decide_eq_false (fun e=>?_);subst e;have : x=y:=by rw [<- ex,<- ey]
      rw [(qDu _ _).2 this] at he;cases he
     clear ex ey hx1 hy1 hkx hky;go_wp2;go_quiet (fail)
     go_wp2;go_ret;exact ⟨by rw [HN.out];rfl,bdN (bd0 _ _) _⟩
    ·have HN:Hid (xs.take (k+1)=ys.take (k+1)):=by
      show xs.take (k+1)=ys.take (k+1)
      rw [List.take_succ_eq_append_getElem hkx,List.take_succ_eq_append_getElem hky,HT.out,ex,ey,(qDu _ _).1 he]
     clear ex ey hx1 hy1 hkx hky;go_wp2;go_quiet (fail)
     go_wp2;exact ⟨⟨k+1,by omega,by go_num,HN.out,_,rfl⟩,by simp [intOf];omega⟩
   ·have hkn:k=n:=by omega
    subst hkn
    have HE:Hid (decide (xs=ys)=true):=by
     show decide (xs=ys)=true
     have h1:=HT.out;rw [List.take_of_length_le (by rw [HX.out.1];exact Nat.le_refl _),List.take_of_length_le (by rw [HY.out.1];exact Nat.le_refl _)] at h1;exact decide_eq_true h1
    go_wp2;go_ret;exact ⟨by rw [HE.out];rfl,bd0 _ _⟩
 ·have HN:Hid (decide (xs=ys)=false):=by
   show decide (xs=ys)=false
   refine decide_eq_false (fun e=>hnm ?_);rw [<- HX.out.1,<- HY.out.1,e]
  have hne:((n:Int)==(m:Int))=false:=by simp;omega
  have hne2:((n:Int) != (m:Int))=true:=by simp;omega
  go_enter Tryz.func179,Tryz.ntmps179;go_wp2;go_ret;exact ⟨by rw [HN.out];rfl,Below.refl _ _⟩
def qLQ (w:World):Value->Int
 | .slice (some a) n _=>((List.range n).map (fun k=>intOf ((w.cell? ⟨a.block,a.off+k * 3+2,none⟩).getD undef))).sum
 | _=>0
theorem qFj {w:World} {b off n c:Nat} {gs:List GrI} (h:QC1 w (some ⟨b,off,none⟩) n gs):qLQ w (.slice (some ⟨b,off,none⟩) n c)=qT5 gs:=by
 suffices key:(List.range n).map (fun k=>intOf ((w.cell? ⟨b,off+k * 3+2,none⟩).getD undef))=gs.map Prod.snd by
  show ((List.range n).map (fun k=>intOf ((w.cell? ⟨b,off+k * 3+2,none⟩).getD undef))).sum=(gs.map Prod.snd).sum
  rw [key]
 apply List.ext_getElem
 ·simp [h.1]
 ·intro k h1 h2;have hk:k < n:=by simpa using h1
  obtain ⟨b',off',x,e,hx,⟨_,_,c2⟩,_⟩:=h.at hk
  cases e;have hkx:k < gs.length:=by rw [h.1];exact hk
  have ex:gs[k]=x:=by rw [List.getElem?_eq_getElem hkx] at hx;exact Option.some.inj hx
  simp [c2,ex,intOf]
theorem qKp (a:Option Addr) (m d:Nat) (zs:List qA2) (w:World) (hr:qB8 w a m zs) (hm:m<=1000) (hz:∀ z∈zs,okR z/\1<=z.k/\z.k<=4) :
  Calls Tryz.prog 154 #[.slice a m d] w fun e w'=>∃ g l cap gs,e = .returned (.slice (some ⟨g,0,none⟩) l cap)/\gs.length=l/\QJ9 zs gs/\(∃ n,gs=itG zs n)/\qP3 w' w.heap.size (.slice (some ⟨g,0,none⟩) l cap) gs/\Below w.heap.size w w':=by
 have HR:Hid (qB8 w a m zs):=hr;have HZ:Hid (∀ z∈zs,okR z/\1<=z.k/\z.k<=4):=hz;clear hr hz;go_enter Tryz.func154,Tryz.ntmps154;go_wp2_with fail
 go_loopw [3] (fun v wr=>∃ k l g cap:Nat,v = .slice (some ⟨g,0,none⟩) l cap/\(itG zs k).length=l/\qP3 wr w.heap.size (.slice (some ⟨g,0,none⟩) l cap) (itG zs k)/\Below w.heap.size w wr) (fun v wr=>(10200 - qLQ wr v).toNat)
 case atStart=>exact ⟨0,0,w.heap.size,0,rfl,rfl,World.ownsRow_lit w #[] 0 (Nat.le_refl _) (Nat.zero_le _) rfl,zN⟩
 case round =>
  obtain ⟨k,l,g,cap,rfl,hl,hown,hnx⟩:=hrel;have HO:Hid (qP3 wr w.heap.size (.slice (some ⟨g,0,none⟩) l cap) (itG zs k)):=hown;have HL:Hid ((itG zs k).length=l):=hl;have HK:Hid (∀ z∈zs,okR z):=fun z h=>(HZ.out z h).1
  have HM:Hid (qLQ wr (.slice (some ⟨g,0,none⟩) l cap)=qT5 (itG zs k)):=qFj (hown.read hl);have hl40:l<=40:=by rw [<- hl];exact QS1 (QH7 HK.out k)
  clear hown hl
  have HST:Hid (Calls Tryz.prog 178 #[.slice a m d,.slice (some ⟨g,0,none⟩) l cap] wr fun e w'=>∃ g' l' cap',e = .returned (.slice (some ⟨g',0,none⟩) l' cap')/\(qO1 zs (itG zs k)).length=l'/\qP3 w' wr.heap.size (.slice (some ⟨g',0,none⟩) l' cap') (qO1 zs (itG zs k))/\Below wr.heap.size wr w') :=
   qIv g 0 l cap (itG zs k) a m d zs wr (HO.out.read HL.out) (QH7 HK.out k) (HR.out.below hnx) hm HZ.out
  go_upto_region 3 with (first | (go_at_call 178;refine HST.out.mono ?_;rintro e w2 ⟨g2,l2,cap2,rfl,hl2,hown2,hb2⟩))
  have HL2:Hid ((qO1 zs (itG zs k)).length=l2):=hl2;have HO2:Hid (qP3 w2 wr.heap.size (.slice (some ⟨g2,0,none⟩) l2 cap2) (qO1 zs (itG zs k))):=hown2;have hl240:l2<=40:=by rw [<- hl2];exact QS1 (qFu HK.out (QH7 HK.out k))
  clear hl2 hown2 HST
  have HSA:Hid (Calls Tryz.prog 179 #[.slice (some ⟨g2,0,none⟩) l2 cap2,.slice (some ⟨g,0,none⟩) l cap] w2 fun e w'=>e = .returned (.bool (decide (qO1 zs (itG zs k)=itG zs k)))/\Below w2.heap.size w2 w') :=
   qIw _ _ _ _ _ _ _ _ w2 (HO2.out.read HL2.out) ((HO.out.read HL.out).below hb2) (by omega) (by omega)
  by_cases hfix:qO1 zs (itG zs k)=itG zs k
  ·have HF:Hid (qO1 zs (itG zs k)=itG zs k):=hfix;rw [decide_eq_true hfix] at HSA;clear hfix;go_wp2_with (first | (go_at_call 179;refine HSA.out.mono ?_;rintro e w3 ⟨rfl,hb3⟩))
   go_ret;have hb:Below wr.heap.size wr w3:=hb2.trans (hb3.mono hb2.size);exact ⟨g,l,cap,itG zs k,rfl,HL.out,qHl HK.out HF.out,⟨k,rfl⟩,HO.out.below hb,hnx.trans (hb.mono hnx.size)⟩
  ·have HF:Hid (qT5 (itG zs k) < qT5 (itG zs (k+1))/\qT5 (itG zs (k+1))<=10200):=by
    have h1:=qDH HK.out (QH7 HK.out k);have h2:=(qJZ (QH7 HK.out (k+1))).2;have h3:qT5 (itG zs k)≠qT5 (qO1 zs (itG zs k)):=fun e=>hfix (h1.2 e)
    have h4:=h1.1;show qT5 (itG zs k) < qT5 (itG zs (k+1))/\qT5 (itG zs (k+1))<=10200
    simp only [itG] at h2 ⊢
    omega
   rw [decide_eq_false hfix] at HSA;clear hfix;go_wp2_with (first | (go_at_call 179;refine HSA.out.mono ?_;rintro e w3 ⟨rfl,hb3⟩))
   have ho3:qP3 w3 w.heap.size (.slice (some ⟨g2,0,none⟩) l2 cap2) (itG zs (k+1)):=qZ6 (HO2.out.below hb3) hnx.size;have hs3:qLQ w3 (.slice (some ⟨g2,0,none⟩) l2 cap2)=qT5 (itG zs (k+1)):=qFj (ho3.read HL2.out);have hb:Below wr.heap.size wr w3:=hb2.trans (hb3.mono hb2.size);go_roundw
   case rel=>exact ⟨k+1,l2,g2,cap2,rfl,HL2.out,ho3,hnx.trans (hb.mono hnx.size)⟩
   case measure =>
    have h1:=HM.out;have h2:=HF.out;show (10200 - qLQ w3 (.slice (some ⟨g2,0,none⟩) l2 cap2)).toNat < (10200 - qLQ wr (.slice (some ⟨g,0,none⟩) l cap)).toNat
    rw [hs3,h1];omega
end
