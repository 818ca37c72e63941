/- Contracts. -/
import Derived.Test.YtdppdbihhlipeaaGreatDoorPr22
import Derived.Test.YtdppdbihhlipeaaGreatDoorPr09
import Derived.Test.YtdppdbihhlipeaaGreatDoorPr19
import Derived.Test.YtdppdbihhlipeaaGreatDoorPr20
import Derived.Test.YtdppdbihhlipeaaGreatDoorPr06
import Derived.Deep.AppendLies
import Derived.Deep.DeepCutAuto
import Derived.Deep.CutBlock
import Derived.Laws.AppendOwnNone
namespace Go.Proofs.YtdppdbihhlipeaaGreatDoor
set_option maxRecDepth 100000
set_option maxHeartbeats 8000000
open Go.RowKit
set_option linter.unusedVariables false
set_option linter.unusedSimpArgs false

theorem qS8 (r:qA2) (t:TypeId) (v:Value) (w:World) (hk:1<=r.k/\r.k<=4)
  (HO:Hid (∀ w:World,Calls Tryz.prog 196 #[.agg #[.int .i64 r.k,.int .i64 r.ho,.int .i64 r.hn,.int .i64 r.w,.int .i64 r.oo,.int .i64 r.on,.int .i64 r.to,.int .i64 r.tn]] w fun e w'=>e = .returned (.iface t v)/\Below w.heap.size w w'))
  (HF:Hid (∀ w:World,Calls Tryz.prog 199 #[.iface t v] w fun e w'=>e = .returned (.int .i64 (if QE3 r=true then 0 else 3))/\Below w.heap.size w w')) :
  Calls Tryz.prog 180 #[.agg #[.int .i64 r.k,.int .i64 r.ho,.int .i64 r.hn,.int .i64 r.w,.int .i64 r.oo,.int .i64 r.on,.int .i64 r.to,.int .i64 r.tn]] w fun e w'=>e = .returned (.int .i64 (qA8 r))/\Below w.heap.size w w':=by
 have hX:Hid (qD0 (w.alloc (Obj.cells #[.int .i64 r.k,.int .i64 r.ho,.int .i64 r.hn,.int .i64 r.w,.int .i64 r.oo,.int .i64 r.on,.int .i64 r.to,.int .i64 r.tn] 125)) w.heap.size 0 r):=qD0.new w r _;cases hr:qD6 r.ho r.hn
 ·have E:Hid (qA8 r=3):=by show qA8 r=3;simp [qA8,hk,hr]
  have hc:qF1 r.ho r.hn=3:=by simp [qF1,hr]
  have hb:Below (w.alloc (Obj.cells #[.int .i64 r.k,.int .i64 r.ho,.int .i64 r.hn,.int .i64 r.w,.int .i64 r.oo,.int .i64 r.on,.int .i64 r.to,.int .i64 r.tn] 125)).heap.size (w.alloc (Obj.cells #[.int .i64 r.k,.int .i64 r.ho,.int .i64 r.hn,.int .i64 r.w,.int .i64 r.oo,.int .i64 r.on,.int .i64 r.to,.int .i64 r.tn] 125)) (w.alloc (Obj.cells #[.int .i64 r.k,.int .i64 r.ho,.int .i64 r.hn,.int .i64 r.w,.int .i64 r.oo,.int .i64 r.on,.int .i64 r.to,.int .i64 r.tn] 125)):=Below.refl _ _;obtain ⟨h0,h1,h2,h3,h4,h5,h6,h7⟩:=hX.out;simp only [Nat.zero_add] at h0 h1 h2 h3 h4 h5 h6 h7;go_enter Tryz.func180,Tryz.ntmps180;go_wp2_with (first | (go_at_call 196;refine (HO.out _).mono ?_;rintro e w1 ⟨rfl,hb1⟩;replace hb:=hb.trans (hb1.mono hb.size);clear h0 h1 h2 h3 h4 h5 h6 h7 hb1;obtain ⟨h0,h1,h2,h3,h4,h5,h6,h7⟩:=hX.out.below hb;simp only [Nat.zero_add] at h0 h1 h2 h3 h4 h5 h6 h7) | (go_at_call 197;refine (qD3 _ _ _).mono ?_;rintro e w1 ⟨rfl,hb1⟩;replace hb:=hb.trans (hb1.mono hb.size);clear h0 h1 h2 h3 h4 h5 h6 h7 hb1;obtain ⟨h0,h1,h2,h3,h4,h5,h6,h7⟩:=hX.out.below hb;simp only [Nat.zero_add] at h0 h1 h2 h3 h4 h5 h6 h7;rw [hc]))
  go_ret;exact ⟨by rw [E.out];rfl,qC8 hb⟩
 ·have hc:qF1 r.ho r.hn=0:=by simp [qF1,hr]
  cases hbr:QP5 r
  ·have E:Hid (qA8 r=1):=by show qA8 r=1;simp [qA8,hk,hr,hbr]
   have hb:Below (w.alloc (Obj.cells #[.int .i64 r.k,.int .i64 r.ho,.int .i64 r.hn,.int .i64 r.w,.int .i64 r.oo,.int .i64 r.on,.int .i64 r.to,.int .i64 r.tn] 125)).heap.size (w.alloc (Obj.cells #[.int .i64 r.k,.int .i64 r.ho,.int .i64 r.hn,.int .i64 r.w,.int .i64 r.oo,.int .i64 r.on,.int .i64 r.to,.int .i64 r.tn] 125)) (w.alloc (Obj.cells #[.int .i64 r.k,.int .i64 r.ho,.int .i64 r.hn,.int .i64 r.w,.int .i64 r.oo,.int .i64 r.on,.int .i64 r.to,.int .i64 r.tn] 125)):=Below.refl _ _;obtain ⟨h0,h1,h2,h3,h4,h5,h6,h7⟩:=hX.out;simp only [Nat.zero_add] at h0 h1 h2 h3 h4 h5 h6 h7;go_enter Tryz.func180,Tryz.ntmps180;go_wp2_with (first | (go_at_call 196;refine (HO.out _).mono ?_;rintro e w1 ⟨rfl,hb1⟩;replace hb:=hb.trans (hb1.mono hb.size);clear h0 h1 h2 h3 h4 h5 h6 h7 hb1;obtain ⟨h0,h1,h2,h3,h4,h5,h6,h7⟩:=hX.out.below hb;simp only [Nat.zero_add] at h0 h1 h2 h3 h4 h5 h6 h7) | (go_at_call 197;refine (qD3 _ _ _).mono ?_;rintro e w1 ⟨rfl,hb1⟩;replace hb:=hb.trans (hb1.mono hb.size);clear h0 h1 h2 h3 h4 h5 h6 h7 hb1;obtain ⟨h0,h1,h2,h3,h4,h5,h6,h7⟩:=hX.out.below hb;simp only [Nat.zero_add] at h0 h1 h2 h3 h4 h5 h6 h7;rw [hc]) | (go_at_call 198;refine (QT7 r hk _).mono ?_;rintro e w1 ⟨rfl,hb1⟩;replace hb:=hb.trans (hb1.mono hb.size);clear h0 h1 h2 h3 h4 h5 h6 h7 hb1;obtain ⟨h0,h1,h2,h3,h4,h5,h6,h7⟩:=hX.out.below hb;simp only [Nat.zero_add] at h0 h1 h2 h3 h4 h5 h6 h7;rw [hbr]))
   go_ret;exact ⟨by rw [E.out];rfl,qC8 hb⟩
  ·have E:Hid (qA8 r=if QE3 r=true then 0 else 3):=by show qA8 r=if QE3 r=true then 0 else 3;simp [qA8,hk,hr,hbr];cases QE3 r <;> rfl
   obtain ⟨c,hcc⟩:∃ c:Int,c=if QE3 r=true then 0 else 3:=⟨_,rfl⟩;rw [<- hcc] at HF E;clear hcc;have hb:Below (w.alloc (Obj.cells #[.int .i64 r.k,.int .i64 r.ho,.int .i64 r.hn,.int .i64 r.w,.int .i64 r.oo,.int .i64 r.on,.int .i64 r.to,.int .i64 r.tn] 125)).heap.size (w.alloc (Obj.cells #[.int .i64 r.k,.int .i64 r.ho,.int .i64 r.hn,.int .i64 r.w,.int .i64 r.oo,.int .i64 r.on,.int .i64 r.to,.int .i64 r.tn] 125)) (w.alloc (Obj.cells #[.int .i64 r.k,.int .i64 r.ho,.int .i64 r.hn,.int .i64 r.w,.int .i64 r.oo,.int .i64 r.on,.int .i64 r.to,.int .i64 r.tn] 125)):=Below.refl _ _;obtain ⟨h0,h1,h2,h3,h4,h5,h6,h7⟩:=hX.out;simp only [Nat.zero_add] at h0 h1 h2 h3 h4 h5 h6 h7;go_enter Tryz.func180,Tryz.ntmps180;go_wp2_with (first | (go_at_call 196;refine (HO.out _).mono ?_;rintro e w1 ⟨rfl,hb1⟩;replace hb:=hb.trans (hb1.mono hb.size);clear h0 h1 h2 h3 h4 h5 h6 h7 hb1;obtain ⟨h0,h1,h2,h3,h4,h5,h6,h7⟩:=hX.out.below hb;simp only [Nat.zero_add] at h0 h1 h2 h3 h4 h5 h6 h7) | (go_at_call 197;refine (qD3 _ _ _).mono ?_;rintro e w1 ⟨rfl,hb1⟩;replace hb:=hb.trans (hb1.mono hb.size);clear h0 h1 h2 h3 h4 h5 h6 h7 hb1;obtain ⟨h0,h1,h2,h3,h4,h5,h6,h7⟩:=hX.out.below hb;simp only [Nat.zero_add] at h0 h1 h2 h3 h4 h5 h6 h7;rw [hc]) | (go_at_call 198;refine (QT7 r hk _).mono ?_;rintro e w1 ⟨rfl,hb1⟩;replace hb:=hb.trans (hb1.mono hb.size);clear h0 h1 h2 h3 h4 h5 h6 h7 hb1;obtain ⟨h0,h1,h2,h3,h4,h5,h6,h7⟩:=hX.out.below hb;simp only [Nat.zero_add] at h0 h1 h2 h3 h4 h5 h6 h7;rw [hbr]) | (go_at_call 199;refine (HF.out _).mono ?_;rintro e w1 ⟨rfl,hb1⟩;replace hb:=hb.trans (hb1.mono hb.size);clear h0 h1 h2 h3 h4 h5 h6 h7 hb1;obtain ⟨h0,h1,h2,h3,h4,h5,h6,h7⟩:=hX.out.below hb;simp only [Nat.zero_add] at h0 h1 h2 h3 h4 h5 h6 h7))
   go_ret;exact ⟨by rw [E.out];rfl,qC8 hb⟩
theorem QO1 (r:qA2) (w:World) :
  Calls Tryz.prog 180 #[.agg #[.int .i64 r.k,.int .i64 r.ho,.int .i64 r.hn,.int .i64 r.w,.int .i64 r.oo,.int .i64 r.on,.int .i64 r.to,.int .i64 r.tn]] w fun e w' =>
   e = .returned (.int .i64 (qA8 r))/\Below w.heap.size w w':=by
 by_cases hk:1<=r.k/\r.k<=4
 ·have hk':r.k=1\/r.k=2\/r.k=3\/r.k=4:=by omega
  rcases hk' with e | e | e | e
  ·have e2:QE3 r=qU0 r.w:=by simp [QE3,e]
   exact qS8 r _ _ w hk (QY6 r e) (fun w=>by rw [e2];exact qCv r.w w)
  ·have e2:QE3 r=qD6 r.oo r.on:=by simp [QE3,e]
   exact qS8 r _ _ w hk (QY5 r e) (fun w=>by rw [e2];exact qCu r.oo r.on w)
  ·have e2:QE3 r=(qD6 r.oo r.on&&qV1 r.tn):=by simp [QE3,e]
   exact qS8 r _ _ w hk (QJ7 r e) (fun w=>by rw [e2];exact qCt r.oo r.on r.tn w)
  ·have e2:QE3 r=(qD6 r.oo r.on&&qD6 r.to r.tn):=by simp [QE3,e]
   exact qS8 r _ _ w hk (QY4 r e) (fun w=>by rw [e2];exact qCs r.oo r.on r.to r.tn w)
 ·have E:Hid (qA8 r=1):=by show qA8 r=1;simp [qA8,hk]
  go_enter Tryz.func180,Tryz.ntmps180;go_wp2_with (first | (go_at_call 196;refine (qJO r hk _).mono ?_;rintro e w1 ⟨rfl,hb1⟩))
  go_ret;exact ⟨by rw [E.out];rfl,qC8 hb1⟩

theorem QW0 (a:Option Addr) (n cap:Nat) (w:World) (hn:n<=1048576) (h16:16 < n) :
  Calls Tryz.prog 164 #[.slice a n cap] w fun e w'=>e = .returned (.int .i64 2)/\Below w.heap.size w w':=by
 have h':(16:Int) < (n:Int):=by omega
 go_enter Tryz.func164,Tryz.ntmps164;go_wp2;go_ret;exact ⟨rfl,Below.refl _ _⟩
theorem qAK (a:Option Addr) (n cap:Nat) (zs:List qA2) (c:Int) (w:World) (h16:n<=16) (hcap:n<=cap) (hcm:cap<=maxLen) (h:qB8 w a n zs) (hc:qL0 zs n=c) :
  Calls Tryz.prog 164 #[.slice a n cap] w fun e w'=>e = .returned (.int .i64 c)/\Below w.heap.size w w':=by
 have H:Hid (qB8 w a n zs):=h;have hz:Hid (zs.length=n):=h.1;have HC:Hid (qL0 zs n=c):=hc;clear h hc;have h':¬ ((16:Int) < (n:Int)):=by omega
 go_enter Tryz.func164,Tryz.ntmps164;go_wp2;go_loopw [11] (fun i wr=>∃ k:Nat,k<=n/\i = .int .i64 (k:Int)/\qL0 zs k=0/\Below w.heap.size w wr) (fun i _=>n - (intOf i).toNat)
 case atStart=>exact ⟨0,Nat.zero_le _,rfl,rfl,Below.refl _ _⟩
 case round =>
  obtain ⟨k,hk,rfl,hp,hnx⟩:=hrel;have HP:Hid (qL0 zs k=0):=hp;clear hp;by_cases hlt:k < n
  ·obtain ⟨b,off,r,rfl,hs,hr⟩:=H.out.at hlt
   have HS:Hid (zs[k]? = some r):=hs;clear hs;obtain ⟨h0,h1,h2,h3,h4,h5,h6,h7⟩:=hr.below hnx;clear hr;have hlt':(k:Int) < (n:Int):=by omega
   go_wp2_with fail
   refine (QO1 r _).mono ?_;rintro e w1 ⟨rfl,hb1⟩;have hz1:=hb1.size;simp only [World.size_alloc] at hz1;have hnx1:Below w.heap.size w w1:=hnx.trans ((qC8 hb1).mono hnx.size);have hlt1:wr.heap.size < w1.heap.size:=by omega
   have hR:Hid (qD0 w1 wr.heap.size 0 r):=(qD0.new wr r _).below hb1;clear h0 h1 h2 h3 h4 h5 h6 h7 hb1;by_cases hcode:qA8 r=0
   ·rw [hcode];have HO:Hid (qA8 r=0):=hcode;clear hcode;have HX:Hid (qB8 w1 (some ⟨b,off,none⟩) k (zs.take k)):=(H.out.cut hk).below hnx1;have hkc:(k:Int)<=(cap:Int):=by omega
    have hk0:(0:Int)<=(k:Int):=by omega
    obtain ⟨h0,h1,h2,h3,h4,h5,h6,h7⟩:=hR.out;simp only [Nat.zero_add] at h0 h1 h2 h3 h4 h5 h6 h7;obtain ⟨t,ht⟩:∃ t,t=decide (r∈zs.take k):=⟨_,rfl⟩;have HC2:Hid (∀ w2:World,(∀ b o,b < w1.heap.size->w2.cell? ⟨b,o,none⟩=w1.cell? ⟨b,o,none⟩)/\Below w1.heap.size w1 w2->Calls Tryz.prog 181 #[.slice (some ⟨b,off,none⟩) k cap,.agg #[.int .i64 r.k,.int .i64 r.ho,.int .i64 r.hn,.int .i64 r.w,.int .i64 r.oo,.int .i64 r.on,.int .i64 r.to,.int .i64 r.tn]] w2 fun e w'=>e = .returned (.bool t)/\Below w2.heap.size w2 w'):=fun w2 hb=>by rw [ht];exact QG3 _ _ _ _ r w2 (by omega) (HX.out.below hb.2)
    have HT:Hid (t=decide (r∈zs.take k)):=ht;clear ht;cases t
    ·have HN:Hid (qL0 zs (k+1)=0):=QS8 zs k r HS.out HP.out HO.out (by simpa using HT.out);go_wp2
     go_region_held3 (fun w'=>(∀ b o,b < w1.heap.size->w'.cell? ⟨b,o,none⟩=w1.cell? ⟨b,o,none⟩)/\Below w1.heap.size w1 w') (first | exact hS | exact qC1 _)
      (first | (go_at_call 181;refine (HC2.out _ (by assumption)).mono ?_;rintro e w' ⟨rfl,hb2⟩;have hS:=qA9 (by assumption) hb2))
     go_wp2;exact ⟨⟨k+1,by omega,by go_num,HN.out,hnx1.trans (hS.2.mono hnx1.size)⟩,by simp [intOf];omega⟩
    ·have HI:Hid (c=6):=HC.out.symm.trans (qQ9 zs (k+1) n 6 (by decide) (QF4 zs k r HS.out HP.out HO.out (by simpa using HT.out)) (by omega));go_wp2
     go_region_held3 (fun w'=>(∀ b o,b < w1.heap.size->w'.cell? ⟨b,o,none⟩=w1.cell? ⟨b,o,none⟩)/\Below w1.heap.size w1 w') (first | exact hS | exact qC1 _)
      (first | (go_at_call 181;refine (HC2.out _ (by assumption)).mono ?_;rintro e w' ⟨rfl,hb2⟩;have hS:=qA9 (by assumption) hb2))
     go_wp2;go_ret;exact ⟨by rw [HI.out];rfl,hnx1.trans (hS.2.mono hnx1.size)⟩
   ·have E:Hid (c=qA8 r):=(HC.out.symm.trans (qQ9 zs (k+1) n _ hcode (QD2 zs k r HS.out HP.out hcode) (by omega)));obtain ⟨d,hd⟩:∃ d,d=qA8 r:=⟨_,rfl⟩;rw [<- hd] at hcode E ⊢
    clear hd;have hne:(d != 0)=true:=by simpa using hcode
    go_wp2;go_ret;exact ⟨by rw [E.out];rfl,hnx1⟩
  ·have hkn:k=n:=by omega
   subst hkn;have E:Hid (c=0):=HC.out.symm.trans HP.out;go_wp2;go_ret;exact ⟨by rw [E.out];rfl,hnx⟩
theorem qV3 (a:Option Addr) (n cap:Nat) (zs:List qA2) (w:World) (hn:n<=1048576) (hcap:n<=cap) (hcm:cap<=maxLen) (h:qB8 w a n zs) :
  Calls Tryz.prog 164 #[.slice a n cap] w fun e w'=>e = .returned (.int .i64 (qD1 zs))/\Below w.heap.size w w':=by
 have hz:=h.1;by_cases h16:16 < n
 ·have e:qD1 zs=2:=by simp [qD1,hz,h16]
  rw [e];exact QW0 a n cap w hn h16
 ·have e:qD1 zs=qL0 zs n:=by simp [qD1,hz,h16]
  rw [e];exact qAK a n cap zs _ w (by omega) hcap hcm h rfl

def QZ4 (f:Nat) (v:Value) (xs:List RoI):Prop:=∀ w:World,Calls Tryz.prog f #[v] w fun e w'=>∃ g:Nat,e = .returned (.slice (some ⟨g,0,none⟩) xs.length xs.length)/\(∀ j u,(QB9 xs)[j]? = some u->w'.cell? ((⟨g,0,none⟩:Addr).add j)=some u)/\Below w.heap.size w w'
theorem qKW (x:Int) (w:World):Calls Tryz.prog 260 #[.agg #[.int .i64 x]] w fun e w'=>e = .returned (.slice none 0 0)/\Below w.heap.size w w':=by
 go_enter Tryz.func260,Tryz.ntmps260;go_wp2;go_ret;exact ⟨rfl,by go_grown⟩
theorem qJm {w':World} {g:Nat} {o n:Int} (h0:w'.cell? ⟨g,0,none⟩=some (.int .i64 o)) (h1:w'.cell? ⟨g,1,none⟩=some (.int .i64 n)):∀ j u,(QB9 [(o,n)])[j]? = some u->w'.cell? ((⟨g,0,none⟩:Addr).add j)=some u:=by
 intro j u hj;rw [Go.WideShapes.add_plain,Nat.zero_add];match j,hj with
 | 0,hj=>simp [QB9] at hj;subst hj;exact h0
 | 1,hj=>simp [QB9] at hj;subst hj;exact h1
theorem qJl {w':World} {g:Nat} {o n p m:Int} (h0:w'.cell? ⟨g,0,none⟩=some (.int .i64 o)) (h1:w'.cell? ⟨g,1,none⟩=some (.int .i64 n)) (h2:w'.cell? ⟨g,2,none⟩=some (.int .i64 p)) (h3:w'.cell? ⟨g,3,none⟩=some (.int .i64 m)):∀ j u,(QB9 [(o,n),(p,m)])[j]? = some u->w'.cell? ((⟨g,0,none⟩:Addr).add j)=some u:=by
 intro j u hj;rw [Go.WideShapes.add_plain,Nat.zero_add];match j,hj with
 | 0,hj=>simp [QB9] at hj;subst hj;exact h0
 | 1,hj=>simp [QB9] at hj;subst hj;exact h1
 | 2,hj=>simp [QB9] at hj;subst hj;exact h2
 | 3,hj=>simp [QB9] at hj;subst hj;exact h3
theorem qKV (o n:Int):QZ4 261 (.agg #[.int .i64 o,.int .i64 n]) [(o,n)]:=by
 intro w;go_enter Tryz.func261,Tryz.ntmps261;go_wp2;go_ret;exact ⟨_,rfl,qJm (by simp) (by simp),by go_grown⟩
theorem qKU (o n d:Int):QZ4 262 (.agg #[.int .i64 o,.int .i64 n,.int .i64 d]) [(o,n)]:=by
 intro w;go_enter Tryz.func262,Tryz.ntmps262;go_wp2;go_ret;exact ⟨_,rfl,qJm (by simp) (by simp),by go_grown⟩
theorem qKT (o n p m:Int):QZ4 263 (.agg #[.int .i64 o,.int .i64 n,.int .i64 p,.int .i64 m]) [(o,n),(p,m)]:=by
 intro w;go_enter Tryz.func263,Tryz.ntmps263;go_wp2;try go_quiet (fail)
 go_wp2;go_ret
 first
  | exact ⟨_,rfl,qJl (by simp) (by simp) (by simp) (by simp),by go_grown⟩
  | exact ⟨_,rfl,qJl (by simp [go_sem]) (by simp [go_sem]) (by simp [go_sem]) (by simp [go_sem]),bdN (by go_grown) _⟩
