/- Contracts. -/
import Derived.Test.YtlhgjackapdmbaaGreatDoorPc05
import Derived.Test.YtlhgjackapdmbaaGreatDoorPc15
import Derived.Deep.DeepCutAuto
import Derived.Deep.CutBlock
namespace Go.Proofs.YtlhgjackapdmbaaGreatDoor
set_option maxRecDepth 100000
set_option maxHeartbeats 8000000
open Go.RowKit
set_option linter.unusedVariables false
set_option linter.unusedSimpArgs false

section
def GrAt (w:World) (b o:Nat) (x:GrI):Prop:=w.cell? ⟨b,o,none⟩=some (.int .i64 x.1.1)∧w.cell? ⟨b,o+1,none⟩=some (.int .i64 x.1.2)∧w.cell? ⟨b,o+2,none⟩=some (.int .i64 x.2)
theorem GrAt.below {w w':World} {B b o:Nat} {x:GrI} (h:GrAt w b o x) (hb:Below B w w') (hB:b < B):GrAt w' b o x :=
 ⟨(hb.cell (p:=⟨b,o,none⟩) hB).trans h.1,(hb.cell (p:=⟨b,o+1,none⟩) hB).trans h.2.1,(hb.cell (p:=⟨b,o+2,none⟩) hB).trans h.2.2⟩
def QC5 (w:World) (a:Option Addr) (n:Nat) (gs:List GrI):Prop:=gs.length=n∧(0 < n→∃ b off,a=some ⟨b,off,none⟩∧∀ k x,gs[k]? = some x→GrAt w b (off+k * 3) x)
theorem QC5.below {w w':World} {a:Option Addr} {n:Nat} {gs:List GrI} (h:QC5 w a n gs) (hb:Below w.heap.size w w'):QC5 w' a n gs:=by
 refine ⟨h.1,fun hn=>?_⟩
 obtain ⟨b,off,e,k⟩:=h.2 hn
 exact ⟨b,off,e,fun j x hx=>(k j x hx).below hb (zL w ⟨b,off+j * 3,none⟩ (k j x hx).1)⟩
theorem QC5.at {w:World} {a:Option Addr} {n:Nat} {gs:List GrI} (h:QC5 w a n gs) {k:Nat} (hk:k < n):∃ b off x,a=some ⟨b,off,none⟩∧gs[k]? = some x∧GrAt w b (off+k * 3) x∧b < w.heap.size:=by
 obtain ⟨b,off,e,q⟩:=h.2 (by omega)
 have hx:=List.getElem?_eq_getElem (l:=gs) (i:=k) (by rw [h.1];exact hk)
 exact ⟨b,off,_,e,hx,q k _ hx,zL w ⟨b,off+k * 3,none⟩ (q k _ hx).1⟩
theorem ofG_drop {gs:List GrI} {k:Nat} {x:GrI} (h:gs[k]? = some x) (r:RoI):ofG (gs.drop k) r=if x.1=r then x.2 else ofG (gs.drop (k+1)) r:=by
 have hk:k < gs.length:=by
  by_cases q:k < gs.length
  ·exact q
  ·rw [List.getElem?_eq_none (by omega)] at h;cases h
 have e:gs[k]=x:=by rw [List.getElem?_eq_getElem hk] at h;exact Option.some.inj h
 rw [List.drop_eq_getElem_cons hk,e]
 rfl
def eqRo (p q:RoI):Bool:=p.1==q.1&&p.2==q.2
theorem qT9 (p q:RoI):eqRo p q=true↔p=q:=by
 obtain ⟨a,b⟩:=p
 obtain ⟨c,d⟩:=q
 simp [eqRo]
theorem ro_eql (p q:RoI) (w:World):(binOp .eql 112 (.agg #[.int .i64 p.1,.int .i64 p.2]) (.agg #[.int .i64 q.1,.int .i64 q.2])).run Tryz.prog w = .ok (.bool (eqRo p q)) w:=by
 obtain ⟨a0,a1⟩:=p
 obtain ⟨b0,b1⟩:=q
 simp only [eqRo]
 cases e0:(a0==b0)
 ·simp [go_sem,e0]
 cases e1:(a1==b1)
 ·simp [go_sem,e0,e1]
 ·simp [go_sem,e0,e1]
attribute [local go_sem ↓] ro_eql
theorem QM5 (a:Option Addr) (n c:Nat) (gs:List GrI) (r:RoI) (w:World) (hg:QC5 w a n gs) (hn:n≤1048576) :
  Calls Tryz.prog 153 #[.slice a n c,.agg #[.int .i64 r.1,.int .i64 r.2]] w fun e w'=>e = .returned (.int .i64 (ofG gs r))∧Below w.heap.size w w':=by
 have W0:Hid (QC5 (w.alloc (.cells #[.int .i64 r.1,.int .i64 r.2] 112)) a n gs):=hg.below (zN)
 have R0:Hid ((w.alloc (.cells #[.int .i64 r.1,.int .i64 r.2] 112)).cell? ⟨w.heap.size,0,none⟩=some (.int .i64 r.1)∧(w.alloc (.cells #[.int .i64 r.1,.int .i64 r.2] 112)).cell? ⟨w.heap.size,1,none⟩=some (.int .i64 r.2)):=⟨by simp,by simp⟩
 clear hg
 have hn':(n:Int)≤1048576:=by omega
 go_enter Tryz.func153,Tryz.ntmps153
 go_wp2
 go_loopw [5] (fun i wr=>∃ k:Nat,k≤n∧i = .int .i64 (k:Int)∧ofG gs r=ofG (gs.drop k) r∧∃ m,wr=(w.alloc (.cells #[.int .i64 r.1,.int .i64 r.2] 112)).drewN m) (fun i _=>n - (intOf i).toNat)
 case atStart=>exact ⟨0,Nat.zero_le _,rfl,rfl,0,rfl⟩
 case round =>
  obtain ⟨k,hk,rfl,hof,m,rfl⟩:=hrel
  have HF:Hid (ofG gs r=ofG (gs.drop k) r):=hof
  clear hof
  by_cases hlt:k < n
  ·obtain ⟨b,off,x,e,hx,⟨c0,c1,c2⟩,hbl⟩:=W0.out.at hlt
   obtain ⟨r0,r1⟩:=R0.out
   subst e
   have HX:Hid (gs[k]? = some x):=hx
   clear hx
   have hlt':(k:Int) < (n:Int):=by omega
   cases he:eqRo x.1 r
   ·have HE:Hid (ofG gs r=ofG (gs.drop (k+1)) r):=by
     show ofG gs r=_
     rw [HF.out,ofG_drop HX.out,if_neg (fun q=>by rw [(qT9 _ _).2 q] at he;cases he)]
    go_wp2
    go_quiet (fail)
    go_wp2
    exact ⟨⟨k+1,by omega,by go_num,HE.out,_,rfl⟩,by simp [intOf];omega⟩
   ·have HE:Hid (ofG gs r=x.2):=by
     show ofG gs r=_
     rw [HF.out,ofG_drop HX.out,if_pos ((qT9 _ _).1 he)]
    go_wp2
    go_quiet (fail)
    go_wp2
    go_ret
    exact ⟨by rw [HE.out];rfl,bdN (zN) _⟩
  ·have hkn:k=n:=by omega
   subst hkn
   go_wp2
   go_ret
   have : ofG gs r=0:=by rw [HF.out,List.drop_eq_nil_of_le (by rw [W0.out.1];exact Nat.le_refl _)];rfl
   exact ⟨by rw [this];rfl,bdN (zN) _⟩
end

theorem l3By_1 (a:Option Addr) (n c:Nat) (gs:List GrI) (g off:Nat) (r:qA2) (w:World) (hg:QC5 w a n gs) (hn:n≤1048576) (hr:qC7 w g off r) (hs:∀ q,qL1 (ofG gs q)) (hk:okR r) (hk4:r.k=1) :
  Calls Tryz.prog 198 #[.slice a n c,.pointer (some ⟨g,off,none⟩)] w fun e w'=>e = .returned (.int .i64 (byF (ofG gs) r))∧Below w.heap.size w w':=by
 have HG:Hid (QC5 w a n gs):=hg
 have HX:Hid (qC7 w g off r):=hr
 have HS:Hid (∀ q,qL1 (ofG gs q)):=hs
 have E:Hid (byF (ofG gs) r=bitI r.w):=by show byF (ofG gs) r=_;simp [byF,hk4]
 have hw:=hk.2 hk4
 clear hk
 clear hg hr hs
 obtain ⟨k,ho,hn0,wh,oo,on,t0,tn⟩:=r
 have hb:Below w.heap.size w w:=Below.refl _ _
 obtain ⟨h0,h1,h2,h3,h4,h5,h6,h7⟩:=HX.out.below hb
 simp only at h0 h1 h2 h3 h4 h5 h6 h7 hk4 hw
 subst hk4
 go_enter Tryz.func198,Tryz.ntmps198
 go_wp2_with (first | (go_at_call 153;refine (QM5 _ _ _ gs (oo,on) _ (HG.out.below hb) hn).mono ?_;rintro e w1 ⟨rfl,hb1⟩;replace hb:=hb.trans (hb1.mono hb.size);clear h0 h1 h2 h3 h4 h5 h6 h7 hb1;obtain ⟨h0,h1,h2,h3,h4,h5,h6,h7⟩:=HX.out.below hb;simp only at h0 h1 h2 h3 h4 h5 h6 h7) | (go_at_call 154;refine (l1Bit_c _ hw.1 hw.2 _).mono ?_;rintro e w2 ⟨rfl,rfl⟩))
 go_ret
 exact ⟨by rw [E.out];rfl,hb⟩
theorem l3By_2 (a:Option Addr) (n c:Nat) (gs:List GrI) (g off:Nat) (r:qA2) (w:World) (hg:QC5 w a n gs) (hn:n≤1048576) (hr:qC7 w g off r) (hs:∀ q,qL1 (ofG gs q)) (hk:okR r) (hk4:r.k=2) :
  Calls Tryz.prog 198 #[.slice a n c,.pointer (some ⟨g,off,none⟩)] w fun e w'=>e = .returned (.int .i64 (byF (ofG gs) r))∧Below w.heap.size w w':=by
 have HG:Hid (QC5 w a n gs):=hg
 have HX:Hid (qC7 w g off r):=hr
 have HS:Hid (∀ q,qL1 (ofG gs q)):=hs
 have E:Hid (byF (ofG gs) r=ofG gs (r.oo,r.on)):=by show byF (ofG gs) r=_;simp [byF,hk4]
 clear hk
 clear hg hr hs
 obtain ⟨k,ho,hn0,wh,oo,on,t0,tn⟩:=r
 have hb:Below w.heap.size w w:=Below.refl _ _
 obtain ⟨h0,h1,h2,h3,h4,h5,h6,h7⟩:=HX.out.below hb
 simp only at h0 h1 h2 h3 h4 h5 h6 h7 hk4
 subst hk4
 go_enter Tryz.func198,Tryz.ntmps198
 go_wp2_with (first | (go_at_call 153;refine (QM5 _ _ _ gs (oo,on) _ (HG.out.below hb) hn).mono ?_;rintro e w1 ⟨rfl,hb1⟩;replace hb:=hb.trans (hb1.mono hb.size);clear h0 h1 h2 h3 h4 h5 h6 h7 hb1;obtain ⟨h0,h1,h2,h3,h4,h5,h6,h7⟩:=HX.out.below hb;simp only at h0 h1 h2 h3 h4 h5 h6 h7))
 go_ret
 exact ⟨by rw [E.out];rfl,hb⟩
theorem l3By_4 (a:Option Addr) (n c:Nat) (gs:List GrI) (g off:Nat) (r:qA2) (w:World) (hg:QC5 w a n gs) (hn:n≤1048576) (hr:qC7 w g off r) (hs:∀ q,qL1 (ofG gs q)) (hk:okR r) (hk4:r.k=4) :
  Calls Tryz.prog 198 #[.slice a n c,.pointer (some ⟨g,off,none⟩)] w fun e w'=>e = .returned (.int .i64 (byF (ofG gs) r))∧Below w.heap.size w w':=by
 have HG:Hid (QC5 w a n gs):=hg
 have HX:Hid (qC7 w g off r):=hr
 have HS:Hid (∀ q,qL1 (ofG gs q)):=hs
 have E:Hid (byF (ofG gs) r=andI (ofG gs (r.oo,r.on)) (ofG gs (r.to,r.tn))):=by show byF (ofG gs) r=_;simp [byF,hk4]
 clear hk
 clear hg hr hs
 obtain ⟨k,ho,hn0,wh,oo,on,t0,tn⟩:=r
 have hb:Below w.heap.size w w:=Below.refl _ _
 obtain ⟨h0,h1,h2,h3,h4,h5,h6,h7⟩:=HX.out.below hb
 simp only at h0 h1 h2 h3 h4 h5 h6 h7 hk4
 subst hk4
 go_enter Tryz.func198,Tryz.ntmps198
 go_upto_region 8 with (first | (go_at_call 153;refine (QM5 _ _ _ gs (oo,on) _ (HG.out.below hb) hn).mono ?_;rintro e w1 ⟨rfl,hb1⟩;replace hb:=hb.trans (hb1.mono hb.size);clear h0 h1 h2 h3 h4 h5 h6 h7 hb1;obtain ⟨h0,h1,h2,h3,h4,h5,h6,h7⟩:=HX.out.below hb;simp only at h0 h1 h2 h3 h4 h5 h6 h7))
 go_wp2_with (first | (go_at_call 153;refine (QM5 _ _ _ gs (t0,tn) _ (HG.out.below hb) hn).mono ?_;rintro e w2 ⟨rfl,hb1⟩;replace hb:=hb.trans (hb1.mono hb.size);clear h0 h1 h2 h3 h4 h5 h6 h7 hb1))
 go_ret
 exact ⟨by rw [E.out];rfl,hb⟩
theorem l3By_3 (a:Option Addr) (n c:Nat) (gs:List GrI) (g off:Nat) (r:qA2) (w:World) (hg:QC5 w a n gs) (hn:n≤1048576) (hr:qC7 w g off r) (hs:∀ q,qL1 (ofG gs q)) (hk:okR r) (hk4:r.k=3) :
  Calls Tryz.prog 198 #[.slice a n c,.pointer (some ⟨g,off,none⟩)] w fun e w'=>e = .returned (.int .i64 (byF (ofG gs) r))∧Below w.heap.size w w':=by
 have HG:Hid (QC5 w a n gs):=hg
 have HX:Hid (qC7 w g off r):=hr
 have HS:Hid (∀ q,qL1 (ofG gs q)):=hs
 have E:Hid (byF (ofG gs) r=qL5 (ofG gs) r.tn (qB2 (ofG gs (r.oo,r.on)) 8) (qB2 (ofG gs (r.oo,r.on)) 8).length):=by show byF (ofG gs) r=_;simp [byF,hk4]
 clear hk
 clear hg hr hs
 obtain ⟨k,ho,hn0,wh,oo,on,t0,tn⟩:=r
 have hb:Below w.heap.size w w:=Below.refl _ _
 obtain ⟨h0,h1,h2,h3,h4,h5,h6,h7⟩:=HX.out.below hb
 simp only at h0 h1 h2 h3 h4 h5 h6 h7 hk4
 subst hk4
 go_enter Tryz.func198,Tryz.ntmps198
 go_upto_region 10 with (first | (go_at_call 153;refine (QM5 _ _ _ gs (oo,on) _ (HG.out.below hb) hn).mono ?_;rintro e w1 ⟨rfl,hb1⟩;replace hb:=hb.trans (hb1.mono hb.size);clear h0 h1 h2 h3 h4 h5 h6 h7 hb1;obtain ⟨h0,h1,h2,h3,h4,h5,h6,h7⟩:=HX.out.below hb;simp only at h0 h1 h2 h3 h4 h5 h6 h7))
 have HLs:=HS.out (oo,on)
 obtain ⟨ys,hys⟩:∃ ys,ys=qB2 (ofG gs (oo,on)) 8:=⟨_,rfl⟩
 have hl8:ys.length≤8:=by rw [hys];exact QR6 _ 8
 have hl8':(ys.length:Int)≤8:=by omega
 have E2:Hid (byF (ofG gs) ⟨3,ho,hn0,wh,oo,on,t0,tn⟩=qL5 (ofG gs) tn ys ys.length):=by rw [hys];exact E.out
 have HC:Hid (∀ W:World,Calls Tryz.prog 128 #[.int .i64 (ofG gs (oo,on))] W fun e w'=>∃ g cap,e = .returned (.slice (some ⟨g,0,none⟩) ys.length cap)∧w'.ownsRow W.heap.size 2 1 (.slice (some ⟨g,0,none⟩) ys.length cap) ys.length (ys.map (Value.int .i64))∧Below W.heap.size W w'):=fun W=>by rw [hys];exact QU5 _ HLs.1 HLs.2 W
 clear E hys HLs
 go_wp2_with (first | (go_at_call 128;refine (HC.out _).mono ?_;rintro e w2 ⟨gl,cl,rfl,hown,hb1⟩;replace hb:=hb.trans (hb1.mono hb.size);clear h0 h1 h2 h3 h4 h5 h6 h7 hb1))
 have HR:Hid (qC7 w2 g off ⟨3,ho,hn0,wh,oo,on,t0,tn⟩):=HX.out.below hb
 have HY:Hid (∀ k y,ys[k]? = some y→w2.cell? ⟨gl,k,none⟩=some (.int .i64 y)):=fun k y hy=>by
  have hk:k < ys.length:=by
   by_cases q:k < ys.length
   ·exact q
   ·rw [List.getElem?_eq_none (by omega)] at hy;cases hy
  rw [hown.cellAt k (by omega),List.getElem?_map,hy]
  rfl
 have hgl:gl < w2.heap.size:=by
  rcases hown.2 with ⟨h',_⟩ | ⟨g',cap',cur,h',_,hg',_⟩
  ·simp at h'
  ·simp at h';rw [h'.1];exact (Array.getElem?_eq_some_iff.1 hg').1
 clear hown
 go_loopw [6,8] (fun o i wr=>∃ k:Nat,k≤ys.length∧i = .int .i64 (k:Int)∧o = .int .i64 (qL5 (ofG gs) tn ys k)∧Below w2.heap.size w2 wr) (fun _ i _=>ys.length - (intOf i).toNat)
 case atStart=>exact ⟨0,Nat.zero_le _,rfl,by rw [linkTo_zero],Below.refl _ _⟩
 case round =>
  obtain ⟨k,hk,rfl,rfl,hnx⟩:=hrel
  by_cases hlt:k < ys.length
  ·obtain ⟨y,hy⟩:∃ y,ys[k]? = some y:=⟨_,List.getElem?_eq_getElem hlt⟩
   have c0:=(hnx.cell (p:=⟨gl,k,none⟩) hgl).trans (HY.out k y hy)
   have HL:Hid (qL5 (ofG gs) tn ys (k+1)=orI (qL5 (ofG gs) tn ys k) (ofG gs (y,tn))):=linkTo_succ hy _ _
   have hw:Below w.heap.size w wr:=hb.trans (hnx.mono hb.size)
   clear hy
   obtain ⟨h0,h1,h2,h3,h4,h5,h6,h7⟩:=HR.out.below hnx
   simp only at h0 h1 h2 h3 h4 h5 h6 h7
   have hlt':(k:Int) < (ys.length:Int):=by omega
   have HQ:Hid (∀ W:World,((∀ b o,b < wr.heap.size→W.cell? ⟨b,o,none⟩=wr.cell? ⟨b,o,none⟩)∧Below wr.heap.size wr W)→Calls Tryz.prog 153 #[.slice a n c,.agg #[.int .i64 y,.int .i64 tn]] W fun e w'=>e = .returned (.int .i64 (ofG gs (y,tn)))∧Below W.heap.size W w'):=fun W hW=>QM5 _ _ _ gs (y,tn) _ (HG.out.below (hw.trans (hW.2.mono hw.size))) hn
   have hbg:g < wr.heap.size:=zL wr ⟨g,off,none⟩ h0
   have hgl2:gl < wr.heap.size:=zL wr ⟨gl,k,none⟩ c0
   go_wp2
   go_region_held3 (fun w'=>(∀ b o,b < wr.heap.size→w'.cell? ⟨b,o,none⟩=wr.cell? ⟨b,o,none⟩)∧Below wr.heap.size wr w') (first | exact hS | exact qB6 _)
    (first | (go_at_call 153;refine (HQ.out _ (by assumption)).mono ?_;rintro e w' ⟨rfl,hb1⟩;have hS:=qA7 (by assumption) hb1))
   go_wp2
   exact ⟨⟨k+1,by omega,by go_num,by rw [HL.out],hnx.trans (hS.2.mono hnx.size)⟩,by simp [intOf];omega⟩
  ·have hkn:k=ys.length:=by omega
   subst hkn
   go_wp2
   go_ret
   exact ⟨by rw [E2.out];rfl,hb.trans (hnx.mono hb.size)⟩
theorem l3By_c (a:Option Addr) (n c:Nat) (gs:List GrI) (g off:Nat) (r:qA2) (w:World) (hg:QC5 w a n gs) (hn:n≤1048576) (hr:qC7 w g off r) (hs:∀ q,qL1 (ofG gs q)) (hk:okR r) (hk4:1≤r.k∧r.k≤4) :
  Calls Tryz.prog 198 #[.slice a n c,.pointer (some ⟨g,off,none⟩)] w fun e w'=>e = .returned (.int .i64 (byF (ofG gs) r))∧Below w.heap.size w w':=by
 have h4:r.k=1∨r.k=2∨r.k=3∨r.k=4:=by omega
 rcases h4 with e | e | e | e
 ·exact l3By_1 a n c gs g off r w hg hn hr hs hk e
 ·exact l3By_2 a n c gs g off r w hg hn hr hs hk e
 ·exact l3By_3 a n c gs g off r w hg hn hr hs hk e
 ·exact l3By_4 a n c gs g off r w hg hn hr hs hk e

end Go.Proofs.YtlhgjackapdmbaaGreatDoor
