/- Contracts. -/
import Derived.Test.YtlpgapdlepbgbaaGreatDoorPe17
import Derived.Test.YtlpgapdlepbgbaaGreatDoorPe18
import Derived.Test.YtlpgapdlepbgbaaGreatDoorPe19
import Derived.Test.YtlpgapdlepbgbaaGreatDoorPe15
import Derived.Test.YtlpgapdlepbgbaaGreatDoorPe14
import Derived.Laws.AppendOwnNone
namespace Go.Proofs.YtlpgapdlepbgbaaGreatDoor
set_option maxRecDepth 100000
set_option maxHeartbeats 8000000
open Go.RowKit
set_option linter.unusedVariables false
set_option linter.unusedSimpArgs false

theorem qT5 (r:qA1) (t:TypeId) (v:Value) (w:World) (hk:1≤r.k∧r.k≤4)
  (HO:Hid (∀ w:World,Calls Tryz.prog 190 #[.agg #[.int .i64 r.k,.int .i64 r.ho,.int .i64 r.hn,.int .i64 r.w,.int .i64 r.oo,.int .i64 r.on,.int .i64 r.to,.int .i64 r.tn]] w fun e w'=>e = .returned (.iface t v)∧Below w.heap.size w w'))
  (HF:Hid (∀ w:World,Calls Tryz.prog 193 #[.iface t v] w fun e w'=>e = .returned (.int .i64 (if QE4 r=true then 0 else 3))∧Below w.heap.size w w')) :
  Calls Tryz.prog 170 #[.agg #[.int .i64 r.k,.int .i64 r.ho,.int .i64 r.hn,.int .i64 r.w,.int .i64 r.oo,.int .i64 r.on,.int .i64 r.to,.int .i64 r.tn]] w fun e w'=>e = .returned (.int .i64 (qA8 r))∧Below w.heap.size w w':=by
 have hX:Hid (qC6 (w.alloc (Obj.cells #[.int .i64 r.k,.int .i64 r.ho,.int .i64 r.hn,.int .i64 r.w,.int .i64 r.oo,.int .i64 r.on,.int .i64 r.to,.int .i64 r.tn] 127)) w.heap.size 0 r):=qC6.new w r _
 cases hr:qD3 r.ho r.hn
 ·have E:Hid (qA8 r=3):=by show qA8 r=3;simp [qA8,hk,hr]
  have hc:qF0 r.ho r.hn=3:=by simp [qF0,hr]
  have hb:Below (w.alloc (Obj.cells #[.int .i64 r.k,.int .i64 r.ho,.int .i64 r.hn,.int .i64 r.w,.int .i64 r.oo,.int .i64 r.on,.int .i64 r.to,.int .i64 r.tn] 127)).heap.size (w.alloc (Obj.cells #[.int .i64 r.k,.int .i64 r.ho,.int .i64 r.hn,.int .i64 r.w,.int .i64 r.oo,.int .i64 r.on,.int .i64 r.to,.int .i64 r.tn] 127)) (w.alloc (Obj.cells #[.int .i64 r.k,.int .i64 r.ho,.int .i64 r.hn,.int .i64 r.w,.int .i64 r.oo,.int .i64 r.on,.int .i64 r.to,.int .i64 r.tn] 127)):=Below.refl _ _
  obtain ⟨h0,h1,h2,h3,h4,h5,h6,h7⟩:=hX.out
  simp only [Nat.zero_add] at h0 h1 h2 h3 h4 h5 h6 h7
  go_enter Tryz.func170,Tryz.ntmps170
  go_wp2_with (first | (go_at_call 190;refine (HO.out _).mono ?_;rintro e w1 ⟨rfl,hb1⟩;replace hb:=hb.trans (hb1.mono hb.size);clear h0 h1 h2 h3 h4 h5 h6 h7 hb1;obtain ⟨h0,h1,h2,h3,h4,h5,h6,h7⟩:=hX.out.below hb;simp only [Nat.zero_add] at h0 h1 h2 h3 h4 h5 h6 h7) | (go_at_call 191;refine (qC9 _ _ _).mono ?_;rintro e w1 ⟨rfl,hb1⟩;replace hb:=hb.trans (hb1.mono hb.size);clear h0 h1 h2 h3 h4 h5 h6 h7 hb1;obtain ⟨h0,h1,h2,h3,h4,h5,h6,h7⟩:=hX.out.below hb;simp only [Nat.zero_add] at h0 h1 h2 h3 h4 h5 h6 h7;rw [hc]))
  go_ret
  exact ⟨by rw [E.out];rfl,qD5 hb⟩
 ·have hc:qF0 r.ho r.hn=0:=by simp [qF0,hr]
  cases hbr:QN8 r
  ·have E:Hid (qA8 r=1):=by show qA8 r=1;simp [qA8,hk,hr,hbr]
   have hb:Below (w.alloc (Obj.cells #[.int .i64 r.k,.int .i64 r.ho,.int .i64 r.hn,.int .i64 r.w,.int .i64 r.oo,.int .i64 r.on,.int .i64 r.to,.int .i64 r.tn] 127)).heap.size (w.alloc (Obj.cells #[.int .i64 r.k,.int .i64 r.ho,.int .i64 r.hn,.int .i64 r.w,.int .i64 r.oo,.int .i64 r.on,.int .i64 r.to,.int .i64 r.tn] 127)) (w.alloc (Obj.cells #[.int .i64 r.k,.int .i64 r.ho,.int .i64 r.hn,.int .i64 r.w,.int .i64 r.oo,.int .i64 r.on,.int .i64 r.to,.int .i64 r.tn] 127)):=Below.refl _ _
   obtain ⟨h0,h1,h2,h3,h4,h5,h6,h7⟩:=hX.out
   simp only [Nat.zero_add] at h0 h1 h2 h3 h4 h5 h6 h7
   go_enter Tryz.func170,Tryz.ntmps170
   go_wp2_with (first | (go_at_call 190;refine (HO.out _).mono ?_;rintro e w1 ⟨rfl,hb1⟩;replace hb:=hb.trans (hb1.mono hb.size);clear h0 h1 h2 h3 h4 h5 h6 h7 hb1;obtain ⟨h0,h1,h2,h3,h4,h5,h6,h7⟩:=hX.out.below hb;simp only [Nat.zero_add] at h0 h1 h2 h3 h4 h5 h6 h7) | (go_at_call 191;refine (qC9 _ _ _).mono ?_;rintro e w1 ⟨rfl,hb1⟩;replace hb:=hb.trans (hb1.mono hb.size);clear h0 h1 h2 h3 h4 h5 h6 h7 hb1;obtain ⟨h0,h1,h2,h3,h4,h5,h6,h7⟩:=hX.out.below hb;simp only [Nat.zero_add] at h0 h1 h2 h3 h4 h5 h6 h7;rw [hc]) | (go_at_call 192;refine (QR9 r hk _).mono ?_;rintro e w1 ⟨rfl,hb1⟩;replace hb:=hb.trans (hb1.mono hb.size);clear h0 h1 h2 h3 h4 h5 h6 h7 hb1;obtain ⟨h0,h1,h2,h3,h4,h5,h6,h7⟩:=hX.out.below hb;simp only [Nat.zero_add] at h0 h1 h2 h3 h4 h5 h6 h7;rw [hbr]))
   go_ret
   exact ⟨by rw [E.out];rfl,qD5 hb⟩
  ·have E:Hid (qA8 r=if QE4 r=true then 0 else 3):=by show qA8 r=if QE4 r=true then 0 else 3;simp [qA8,hk,hr,hbr];cases QE4 r <;> rfl
   obtain ⟨c,hcc⟩:∃ c:Int,c=if QE4 r=true then 0 else 3:=⟨_,rfl⟩
   rw [← hcc] at HF E
   clear hcc
   have hb:Below (w.alloc (Obj.cells #[.int .i64 r.k,.int .i64 r.ho,.int .i64 r.hn,.int .i64 r.w,.int .i64 r.oo,.int .i64 r.on,.int .i64 r.to,.int .i64 r.tn] 127)).heap.size (w.alloc (Obj.cells #[.int .i64 r.k,.int .i64 r.ho,.int .i64 r.hn,.int .i64 r.w,.int .i64 r.oo,.int .i64 r.on,.int .i64 r.to,.int .i64 r.tn] 127)) (w.alloc (Obj.cells #[.int .i64 r.k,.int .i64 r.ho,.int .i64 r.hn,.int .i64 r.w,.int .i64 r.oo,.int .i64 r.on,.int .i64 r.to,.int .i64 r.tn] 127)):=Below.refl _ _
   obtain ⟨h0,h1,h2,h3,h4,h5,h6,h7⟩:=hX.out
   simp only [Nat.zero_add] at h0 h1 h2 h3 h4 h5 h6 h7
   go_enter Tryz.func170,Tryz.ntmps170
   go_wp2_with (first | (go_at_call 190;refine (HO.out _).mono ?_;rintro e w1 ⟨rfl,hb1⟩;replace hb:=hb.trans (hb1.mono hb.size);clear h0 h1 h2 h3 h4 h5 h6 h7 hb1;obtain ⟨h0,h1,h2,h3,h4,h5,h6,h7⟩:=hX.out.below hb;simp only [Nat.zero_add] at h0 h1 h2 h3 h4 h5 h6 h7) | (go_at_call 191;refine (qC9 _ _ _).mono ?_;rintro e w1 ⟨rfl,hb1⟩;replace hb:=hb.trans (hb1.mono hb.size);clear h0 h1 h2 h3 h4 h5 h6 h7 hb1;obtain ⟨h0,h1,h2,h3,h4,h5,h6,h7⟩:=hX.out.below hb;simp only [Nat.zero_add] at h0 h1 h2 h3 h4 h5 h6 h7;rw [hc]) | (go_at_call 192;refine (QR9 r hk _).mono ?_;rintro e w1 ⟨rfl,hb1⟩;replace hb:=hb.trans (hb1.mono hb.size);clear h0 h1 h2 h3 h4 h5 h6 h7 hb1;obtain ⟨h0,h1,h2,h3,h4,h5,h6,h7⟩:=hX.out.below hb;simp only [Nat.zero_add] at h0 h1 h2 h3 h4 h5 h6 h7;rw [hbr]) | (go_at_call 193;refine (HF.out _).mono ?_;rintro e w1 ⟨rfl,hb1⟩;replace hb:=hb.trans (hb1.mono hb.size);clear h0 h1 h2 h3 h4 h5 h6 h7 hb1;obtain ⟨h0,h1,h2,h3,h4,h5,h6,h7⟩:=hX.out.below hb;simp only [Nat.zero_add] at h0 h1 h2 h3 h4 h5 h6 h7))
   go_ret
   exact ⟨by rw [E.out];rfl,qD5 hb⟩
theorem QM5 (r:qA1) (w:World) :
  Calls Tryz.prog 170 #[.agg #[.int .i64 r.k,.int .i64 r.ho,.int .i64 r.hn,.int .i64 r.w,.int .i64 r.oo,.int .i64 r.on,.int .i64 r.to,.int .i64 r.tn]] w fun e w' =>
   e = .returned (.int .i64 (qA8 r))∧Below w.heap.size w w':=by
 by_cases hk:1≤r.k∧r.k≤4
 ·have hk':r.k=1∨r.k=2∨r.k=3∨r.k=4:=by omega
  rcases hk' with e | e | e | e
  ·have e2:QE4 r=qU5 r.w:=by simp [QE4,e]
   exact qT5 r _ _ w hk (QW4 r e) (fun w=>by rw [e2];exact bodyFault_1 r.w w)
  ·have e2:QE4 r=qD3 r.oo r.on:=by simp [QE4,e]
   exact qT5 r _ _ w hk (QW3 r e) (fun w=>by rw [e2];exact bodyFault_2 r.oo r.on w)
  ·have e2:QE4 r=(qD3 r.oo r.on&&qV6 r.tn):=by simp [QE4,e]
   exact qT5 r _ _ w hk (QI8 r e) (fun w=>by rw [e2];exact bodyFault_3 r.oo r.on r.tn w)
  ·have e2:QE4 r=(qD3 r.oo r.on&&qD3 r.to r.tn):=by simp [QE4,e]
   exact qT5 r _ _ w hk (QW2 r e) (fun w=>by rw [e2];exact bodyFault_4 r.oo r.on r.to r.tn w)
 ·have E:Hid (qA8 r=1):=by show qA8 r=1;simp [qA8,hk]
  go_enter Tryz.func170,Tryz.ntmps170
  go_wp2_with (first | (go_at_call 190;refine (bodyOf_0 r hk _).mono ?_;rintro e w1 ⟨rfl,hb1⟩))
  go_ret
  exact ⟨by rw [E.out];rfl,qD5 hb1⟩

theorem QT8 (a:Option Addr) (n cap:Nat) (w:World) (hn:n≤1048576) (h16:16 < n) :
  Calls Tryz.prog 147 #[.slice a n cap] w fun e w'=>e = .returned (.int .i64 2)∧Below w.heap.size w w':=by
 have h':(16:Int) < (n:Int):=by omega
 go_enter Tryz.func147,Tryz.ntmps147
 go_wp2
 go_ret
 exact ⟨rfl,Below.refl _ _⟩
theorem QY9 (a:Option Addr) (n cap:Nat) (zs:List qA1) (c:Int) (w:World) (h16:n≤16) (hcap:n≤cap) (hcm:cap≤maxLen) (h:qB6 w a n zs) (hc:qL3 zs n=c) :
  Calls Tryz.prog 147 #[.slice a n cap] w fun e w'=>e = .returned (.int .i64 c)∧Below w.heap.size w w':=by
 have H:Hid (qB6 w a n zs):=h
 have hz:Hid (zs.length=n):=h.1
 have HC:Hid (qL3 zs n=c):=hc
 clear h hc
 have h':¬ ((16:Int) < (n:Int)):=by omega
 go_enter Tryz.func147,Tryz.ntmps147
 go_wp2
 go_loopw [11] (fun i wr=>∃ k:Nat,k≤n∧i = .int .i64 (k:Int)∧qL3 zs k=0∧Below w.heap.size w wr) (fun i _=>n - (intOf i).toNat)
 case atStart=>exact ⟨0,Nat.zero_le _,rfl,rfl,Below.refl _ _⟩
 case round =>
  obtain ⟨k,hk,rfl,hp,hnx⟩:=hrel
  have HP:Hid (qL3 zs k=0):=hp
  clear hp
  by_cases hlt:k < n
  ·obtain ⟨b,off,r,rfl,hs,hr⟩:=H.out.at hlt
   have HS:Hid (zs[k]? = some r):=hs
   clear hs
   obtain ⟨h0,h1,h2,h3,h4,h5,h6,h7⟩:=hr.below hnx
   clear hr
   have hlt':(k:Int) < (n:Int):=by omega
   go_wp2_with fail
   refine (QM5 r _).mono ?_
   rintro e w1 ⟨rfl,hb1⟩
   have hz1:=hb1.size
   simp only [World.size_alloc] at hz1
   have hnx1:Below w.heap.size w w1:=hnx.trans ((qD5 hb1).mono hnx.size)
   have hlt1:wr.heap.size < w1.heap.size:=by omega
   have hR:Hid (qC6 w1 wr.heap.size 0 r):=(qC6.new wr r _).below hb1
   clear h0 h1 h2 h3 h4 h5 h6 h7 hb1
   by_cases hcode:qA8 r=0
   ·rw [hcode]
    have HO:Hid (qA8 r=0):=hcode
    clear hcode
    have HX:Hid (qB6 w1 (some ⟨b,off,none⟩) k (zs.take k)):=(H.out.cut hk).below hnx1
    have hkc:(k:Int)≤(cap:Int):=by omega
    have hk0:(0:Int)≤(k:Int):=by omega
    obtain ⟨h0,h1,h2,h3,h4,h5,h6,h7⟩:=hR.out
    simp only [Nat.zero_add] at h0 h1 h2 h3 h4 h5 h6 h7
    obtain ⟨t,ht⟩:∃ t,t=decide (r∈zs.take k):=⟨_,rfl⟩
    have HC2:Hid (∀ w2:World,(∀ b o,b < w1.heap.size→w2.cell? ⟨b,o,none⟩=w1.cell? ⟨b,o,none⟩)∧Below w1.heap.size w1 w2→Calls Tryz.prog 171 #[.slice (some ⟨b,off,none⟩) k cap,.agg #[.int .i64 r.k,.int .i64 r.ho,.int .i64 r.hn,.int .i64 r.w,.int .i64 r.oo,.int .i64 r.on,.int .i64 r.to,.int .i64 r.tn]] w2 fun e w'=>e = .returned (.bool t)∧Below w2.heap.size w2 w'):=fun w2 hb=>by rw [ht];exact QG0 _ _ _ _ r w2 (by omega) (HX.out.below hb.2)
    have HT:Hid (t=decide (r∈zs.take k)):=ht
    clear ht
    cases t
    ·have HN:Hid (qL3 zs (k+1)=0):=QQ9 zs k r HS.out HP.out HO.out (by simpa using HT.out)
     go_wp2
     go_region_held3 (fun w'=>(∀ b o,b < w1.heap.size→w'.cell? ⟨b,o,none⟩=w1.cell? ⟨b,o,none⟩)∧Below w1.heap.size w1 w') (first | exact hS | exact qB4 _)
      (first | (go_at_call 171;refine (HC2.out _ (by assumption)).mono ?_;rintro e w' ⟨rfl,hb2⟩;have hS:=qA0 (by assumption) hb2))
     go_wp2
     exact ⟨⟨k+1,by omega,by go_num,HN.out,hnx1.trans (hS.2.mono hnx1.size)⟩,by simp [intOf];omega⟩
    ·have HI:Hid (c=6):=HC.out.symm.trans (qR6 zs (k+1) n 6 (by decide) (QF2 zs k r HS.out HP.out HO.out (by simpa using HT.out)) (by omega))
     go_wp2
     go_region_held3 (fun w'=>(∀ b o,b < w1.heap.size→w'.cell? ⟨b,o,none⟩=w1.cell? ⟨b,o,none⟩)∧Below w1.heap.size w1 w') (first | exact hS | exact qB4 _)
      (first | (go_at_call 171;refine (HC2.out _ (by assumption)).mono ?_;rintro e w' ⟨rfl,hb2⟩;have hS:=qA0 (by assumption) hb2))
     go_wp2
     go_ret
     exact ⟨by rw [HI.out];rfl,hnx1.trans (hS.2.mono hnx1.size)⟩
   ·have E:Hid (c=qA8 r):=(HC.out.symm.trans (qR6 zs (k+1) n _ hcode (QD6 zs k r HS.out HP.out hcode) (by omega)))
    obtain ⟨d,hd⟩:∃ d,d=qA8 r:=⟨_,rfl⟩
    rw [← hd] at hcode E ⊢
    clear hd
    have hne:(d != 0)=true:=by simpa using hcode
    go_wp2
    go_ret
    exact ⟨by rw [E.out];rfl,hnx1⟩
  ·have hkn:k=n:=by omega
   subst hkn
   have E:Hid (c=0):=HC.out.symm.trans HP.out
   go_wp2
   go_ret
   exact ⟨by rw [E.out];rfl,hnx⟩
theorem qV8 (a:Option Addr) (n cap:Nat) (zs:List qA1) (w:World) (hn:n≤1048576) (hcap:n≤cap) (hcm:cap≤maxLen) (h:qB6 w a n zs) :
  Calls Tryz.prog 147 #[.slice a n cap] w fun e w'=>e = .returned (.int .i64 (qC7 zs))∧Below w.heap.size w w':=by
 have hz:=h.1
 by_cases h16:16 < n
 ·have e:qC7 zs=2:=by simp [qC7,hz,h16]
  rw [e]
  exact QT8 a n cap w hn h16
 ·have e:qC7 zs=qL3 zs n:=by simp [qC7,hz,h16]
  rw [e]
  exact QY9 a n cap zs _ w (by omega) hcap hcm h rfl

def QX0 (f:Nat) (v:Value) (xs:List RoI):Prop:=∀ w:World,Calls Tryz.prog f #[v] w fun e w'=>∃ g:Nat,e = .returned (.slice (some ⟨g,0,none⟩) xs.length xs.length)∧(∀ j u,(QA6 xs)[j]? = some u→w'.cell? ((⟨g,0,none⟩:Addr).add j)=some u)∧Below w.heap.size w w'
theorem roles_1 (x:Int) (w:World):Calls Tryz.prog 252 #[.agg #[.int .i64 x]] w fun e w'=>e = .returned (.slice none 0 0)∧Below w.heap.size w w':=by
 go_enter Tryz.func252,Tryz.ntmps252
 go_wp2
 go_ret
 exact ⟨rfl,by go_grown⟩
theorem news_1 {w':World} {g:Nat} {o n:Int} (h0:w'.cell? ⟨g,0,none⟩=some (.int .i64 o)) (h1:w'.cell? ⟨g,1,none⟩=some (.int .i64 n)):∀ j u,(QA6 [(o,n)])[j]? = some u→w'.cell? ((⟨g,0,none⟩:Addr).add j)=some u:=by
 intro j u hj
 rw [Go.WideShapes.add_plain,Nat.zero_add]
 match j,hj with
 | 0,hj=>simp [QA6] at hj;subst hj;exact h0
 | 1,hj=>simp [QA6] at hj;subst hj;exact h1
theorem news_2 {w':World} {g:Nat} {o n p m:Int} (h0:w'.cell? ⟨g,0,none⟩=some (.int .i64 o)) (h1:w'.cell? ⟨g,1,none⟩=some (.int .i64 n)) (h2:w'.cell? ⟨g,2,none⟩=some (.int .i64 p)) (h3:w'.cell? ⟨g,3,none⟩=some (.int .i64 m)):∀ j u,(QA6 [(o,n),(p,m)])[j]? = some u→w'.cell? ((⟨g,0,none⟩:Addr).add j)=some u:=by
 intro j u hj
 rw [Go.WideShapes.add_plain,Nat.zero_add]
 match j,hj with
 | 0,hj=>simp [QA6] at hj;subst hj;exact h0
 | 1,hj=>simp [QA6] at hj;subst hj;exact h1
 | 2,hj=>simp [QA6] at hj;subst hj;exact h2
 | 3,hj=>simp [QA6] at hj;subst hj;exact h3
theorem roles_2 (o n:Int):QX0 253 (.agg #[.int .i64 o,.int .i64 n]) [(o,n)]:=by
 intro w
 go_enter Tryz.func253,Tryz.ntmps253
 go_wp2
 go_ret
 exact ⟨_,rfl,news_1 (by simp) (by simp),by go_grown⟩
theorem roles_3 (o n d:Int):QX0 254 (.agg #[.int .i64 o,.int .i64 n,.int .i64 d]) [(o,n)]:=by
 intro w
 go_enter Tryz.func254,Tryz.ntmps254
 go_wp2
 go_ret
 exact ⟨_,rfl,news_1 (by simp) (by simp),by go_grown⟩
theorem roles_4 (o n p m:Int):QX0 255 (.agg #[.int .i64 o,.int .i64 n,.int .i64 p,.int .i64 m]) [(o,n),(p,m)]:=by
 intro w
 go_enter Tryz.func255,Tryz.ntmps255
 go_wp2
 try go_quiet (fail)
 go_wp2
 go_ret
 first
  | exact ⟨_,rfl,news_2 (by simp) (by simp) (by simp) (by simp),by go_grown⟩
  | exact ⟨_,rfl,news_2 (by simp [go_sem]) (by simp [go_sem]) (by simp [go_sem]) (by simp [go_sem]),bdN (by go_grown) _⟩

end Go.Proofs.YtlpgapdlepbgbaaGreatDoor
