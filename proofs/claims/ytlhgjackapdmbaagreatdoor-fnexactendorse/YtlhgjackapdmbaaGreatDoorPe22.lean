/- Contracts. -/
import Derived.Test.YtlhgjackapdmbaaGreatDoorPe08
import Derived.Test.YtlhgjackapdmbaaGreatDoorPe21
import Derived.Deep.AppendLies
import Derived.Deep.DeepCutAuto
import Derived.Laws.AppendOwnNone
import Derived.Shelf.SlSortCmp.WholeK
import Derived.Sort.OwnSorted
namespace Go.Proofs.YtlhgjackapdmbaaGreatDoor
set_option maxRecDepth 100000
set_option maxHeartbeats 8000000
open Go.RowKit
set_option linter.unusedVariables false
set_option linter.unusedSimpArgs false

theorem iBad_c (v:Int) (w:World):Calls Tryz.prog 146 #[.int .i64 v] w fun e w'=>e = .returned (.bool (inR v 1 2))∧w=w':=by
 unfold inR
 cases h0:decide (1≤v)
 ·go_enter Tryz.func146,Tryz.ntmps146
  go_wp2
  go_ret
  exact ⟨by simp,rfl⟩
 ·cases h1:decide (v≤2)
  all_goals
   go_enter Tryz.func146,Tryz.ntmps146
   go_wp2
   go_ret
   exact ⟨by simp,rfl⟩
theorem l6F_c (v:Int) (w:World):Calls Tryz.prog 113 #[.int .i64 v] w fun e w'=>e = .returned (.bool (inR v 1 2))∧w=w':=by
 go_enter Tryz.func113,Tryz.ntmps113
 go_wp2_with (go_at_call 51;refine (qX8 _ _ _ _).mono ?_;rintro e w' ⟨rfl,rfl⟩)
 go_ret
 exact ⟨rfl,rfl⟩
def GivesNF (fn:Nat) (f c v:Int) (w:World):Prop:=Calls Tryz.prog fn #[.int .i64 f] w fun e w'=>e = .returned (.agg #[.int .i64 c,.int .i64 v])∧Below w.heap.size w w'
def nfCode (f:Int):Int:=if inR f 1 2=true then 0 else 3
def nfVal (k f:Int):Int:=if inR f 1 2=true then k * f+1 else 0
theorem QH3 (f:Int) (w:World):GivesNF 92 f (nfCode f) (nfVal 3 f) w:=by
 unfold GivesNF nfCode nfVal
 cases h:inR f 1 2
 ·have H:Hid (inR f 1 2=false):=h
  clear h
  simp only [Bool.false_eq_true,if_false]
  go_enter Tryz.func92,Tryz.ntmps92
  go_wp2_with (first | (go_at_call 146;refine (iBad_c _ _).mono ?_;rintro e w' ⟨rfl,rfl⟩;rw [H.out]) | go_in)
  go_returns
  exact ⟨rfl,by go_grown⟩
 ·have H:Hid (inR f 1 2=true):=h
  obtain ⟨h1,h2⟩:=(qG9 f 1 2).1 h
  clear h
  simp only [if_true]
  go_enter Tryz.func92,Tryz.ntmps92
  go_wp2_with (first | (go_at_call 146;refine (iBad_c _ _).mono ?_;rintro e w' ⟨rfl,rfl⟩;rw [H.out]) | go_in)
  go_returns
  exact ⟨rfl,by go_grown⟩

section
attribute [local go_sem ↓] rule_eql
theorem slIndex_c (a:Option Addr) (n cap:Nat) (zs:List qA1) (r:qA1) (w:World) (hn:n≤1048576) (h:qB6 w a n zs) :
  Calls Tryz.prog 195 #[.slice a n cap,.agg #[.int .i64 r.k,.int .i64 r.ho,.int .i64 r.hn,.int .i64 r.w,.int .i64 r.oo,.int .i64 r.on,.int .i64 r.to,.int .i64 r.tn]] w fun e w'=>(∃ i:Int,e = .returned (.int .i64 i)∧((0≤i∧r∈zs)∨(i = -1∧¬ r∈zs)))∧Below w.heap.size w w':=by
 have H:Hid (qB6 w a n zs):=h
 have hz:Hid (zs.length=n):=h.1
 clear h
 have hn':(n:Int)≤1048576:=by omega
 have HB:Hid (qC6 (w.alloc (.cells #[.int .i64 r.k,.int .i64 r.ho,.int .i64 r.hn,.int .i64 r.w,.int .i64 r.oo,.int .i64 r.on,.int .i64 r.to,.int .i64 r.tn] 114)) w.heap.size 0 r):=qC6.new w r _
 go_enter Tryz.func195,Tryz.ntmps195
 go_wp2
 go_loopw [8] (fun i wr=>∃ k:Nat,k≤n∧i = .int .i64 (k:Int)∧¬ r∈zs.take k∧∃ m,wr=(w.alloc (.cells #[.int .i64 r.k,.int .i64 r.ho,.int .i64 r.hn,.int .i64 r.w,.int .i64 r.oo,.int .i64 r.on,.int .i64 r.to,.int .i64 r.tn] 114)).drewN m) (fun i _=>n - (intOf i).toNat)
 case atStart=>exact ⟨0,Nat.zero_le _,rfl,by simp,0,rfl⟩
 case round =>
  obtain ⟨k,hk,rfl,hm,m,rfl⟩:=hrel
  have HM:Hid (¬ r∈zs.take k):=hm
  clear hm
  by_cases hlt:k < n
  ·obtain ⟨b,off,s,rfl,hs,hr⟩:=H.out.at hlt
   have HS:Hid (zs[k]? = some s):=hs
   clear hs
   have hb:b < w.heap.size:=zL w ⟨b,off+k * 8,none⟩ hr.1
   obtain ⟨h0,h1,h2,h3,h4,h5,h6,h7⟩:=hr
   obtain ⟨b0,b1,b2,b3,b4,b5,b6,b7⟩:=HB.out
   simp only [Nat.zero_add] at b0 b1 b2 b3 b4 b5 b6 b7
   have hlt':(k:Int) < (n:Int):=by omega
   cases hsame:QF1 r s
   ·have HF:Hid (QF1 r s=false):=hsame
    have HN:Hid (¬ r∈zs.take (k+1)):=by
     show ¬ r∈zs.take (k+1)
     rw [qP8]
     rintro ⟨j,hj,hjs⟩
     by_cases e:j=k
     ·subst e
      rw [HS.out] at hjs
      simp [QF1] at hsame
      exact hsame (Option.some.inj hjs).symm
     ·exact HM.out ((qP8 _ _ _).2 ⟨j,by omega,hjs⟩)
    clear hsame
    have hsame:QF1 r s=false:=HF.out
    go_wp2
    go_quiet (fail)
    go_wp2
    exact ⟨⟨k+1,by omega,by go_num,HN.out,_,rfl⟩,by simp [intOf];omega⟩
   ·have HI:Hid (r∈zs):=by
     show r∈zs
     simp [QF1] at hsame
     subst hsame
     exact List.mem_of_getElem? HS.out
    go_wp2
    go_quiet (fail)
    go_wp2
    go_ret
    exact ⟨⟨_,rfl,Or.inl ⟨by omega,HI.out⟩⟩,by first | exact bdN (zN) _ | exact bdN (bdN (zN) _) _⟩
  ·have hkn:k=n:=by omega
   subst hkn
   have HN:Hid (¬ r∈zs):=by
    have:=HM.out
    rw [List.take_of_length_le (by rw [hz.out];exact Nat.le_refl _)] at this
    exact this
   go_wp2
   go_ret
   exact ⟨⟨_,rfl,Or.inr ⟨rfl,HN.out⟩⟩,bdN (by go_grown) _⟩
theorem QG0 (a:Option Addr) (n cap:Nat) (zs:List qA1) (r:qA1) (w:World) (hn:n≤1048576) (h:qB6 w a n zs) :
  Calls Tryz.prog 172 #[.slice a n cap,.agg #[.int .i64 r.k,.int .i64 r.ho,.int .i64 r.hn,.int .i64 r.w,.int .i64 r.oo,.int .i64 r.on,.int .i64 r.to,.int .i64 r.tn]] w fun e w'=>e = .returned (.bool (decide (r∈zs)))∧Below w.heap.size w w':=by
 have H:Hid (qB6 (w.alloc (.cells #[.int .i64 r.k,.int .i64 r.ho,.int .i64 r.hn,.int .i64 r.w,.int .i64 r.oo,.int .i64 r.on,.int .i64 r.to,.int .i64 r.tn] 114)) a n zs):=h.below (zN)
 clear h
 have HB:Hid (qC6 (w.alloc (.cells #[.int .i64 r.k,.int .i64 r.ho,.int .i64 r.hn,.int .i64 r.w,.int .i64 r.oo,.int .i64 r.on,.int .i64 r.to,.int .i64 r.tn] 114)) w.heap.size 0 r):=qC6.new w r _
 obtain ⟨b0,b1,b2,b3,b4,b5,b6,b7⟩:=HB.out
 simp only [Nat.zero_add] at b0 b1 b2 b3 b4 b5 b6 b7
 go_enter Tryz.func172,Tryz.ntmps172
 go_wp2_with fail
 refine (slIndex_c a n cap zs r _ hn H.out).mono ?_
 rintro e w1 ⟨⟨i,rfl,hi⟩,hb1⟩
 have HX:Hid (decide (0≤i)=decide (r∈zs)):=by
  show decide (0≤i)=decide (r∈zs)
  rcases hi with ⟨h1,h2⟩ | ⟨rfl,h2⟩
  ·simp [h1,h2]
  ·simp [h2]
 clear hi b0 b1 b2 b3 b4 b5 b6 b7
 go_wp2
 go_ret
 exact ⟨by rw [HX.out];rfl,qD5 hb1⟩
end

theorem QT8 (a:Option Addr) (n cap:Nat) (w:World) (hn:n≤1048576) (h16:16 < n) :
  Calls Tryz.prog 148 #[.slice a n cap] w fun e w'=>e = .returned (.int .i64 2)∧Below w.heap.size w w':=by
 have h':(16:Int) < (n:Int):=by omega
 go_enter Tryz.func148,Tryz.ntmps148
 go_wp2
 go_ret
 exact ⟨rfl,Below.refl _ _⟩
theorem QY9 (a:Option Addr) (n cap:Nat) (zs:List qA1) (c:Int) (w:World) (h16:n≤16) (hcap:n≤cap) (hcm:cap≤maxLen) (h:qB6 w a n zs) (hc:qL3 zs n=c) :
  Calls Tryz.prog 148 #[.slice a n cap] w fun e w'=>e = .returned (.int .i64 c)∧Below w.heap.size w w':=by
 have H:Hid (qB6 w a n zs):=h
 have hz:Hid (zs.length=n):=h.1
 have HC:Hid (qL3 zs n=c):=hc
 clear h hc
 have h':¬ ((16:Int) < (n:Int)):=by omega
 go_enter Tryz.func148,Tryz.ntmps148
 go_wp2
 go_loopw [11] (fun i wr=>∃ k:Nat,k≤n∧i = .int .i64 (k:Int)∧qL3 zs k=0∧Below w.heap.size w wr) (fun i _=>n - (intOf i).toNat)
 case atStart=>exact ⟨0,Nat.zero_le _,rfl,rfl,Below.refl _ _⟩
 case round =>
  obtain ⟨k,hk,rfl,hp,hnx⟩:=hrel
  have HP:Hid (qL3 zs k=0):=hp
  clear hp
  by_cases hlt:k < n
  ·obtain ⟨b,off,r,rfl,hs,hr⟩:=H.out.at hlt
   have HS:Hid (zs[k]? = some r):=hs
   clear hs
   obtain ⟨h0,h1,h2,h3,h4,h5,h6,h7⟩:=hr.below hnx
   clear hr
   have hlt':(k:Int) < (n:Int):=by omega
   go_wp2_with fail
   refine (QM5 r _).mono ?_
   rintro e w1 ⟨rfl,hb1⟩
   have hz1:=hb1.size
   simp only [World.size_alloc] at hz1
   have hnx1:Below w.heap.size w w1:=hnx.trans ((qD5 hb1).mono hnx.size)
   have hlt1:wr.heap.size < w1.heap.size:=by omega
   have hR:Hid (qC6 w1 wr.heap.size 0 r):=(qC6.new wr r _).below hb1
   clear h0 h1 h2 h3 h4 h5 h6 h7 hb1
   by_cases hcode:qA8 r=0
   ·rw [hcode]
    have HO:Hid (qA8 r=0):=hcode
    clear hcode
    have HX:Hid (qB6 w1 (some ⟨b,off,none⟩) k (zs.take k)):=(H.out.cut hk).below hnx1
    have hkc:(k:Int)≤(cap:Int):=by omega
    have hk0:(0:Int)≤(k:Int):=by omega
    obtain ⟨h0,h1,h2,h3,h4,h5,h6,h7⟩:=hR.out
    simp only [Nat.zero_add] at h0 h1 h2 h3 h4 h5 h6 h7
    obtain ⟨t,ht⟩:∃ t,t=decide (r∈zs.take k):=⟨_,rfl⟩
    have HC2:Hid (∀ w2:World,(∀ b o,b < w1.heap.size→w2.cell? ⟨b,o,none⟩=w1.cell? ⟨b,o,none⟩)∧Below w1.heap.size w1 w2→Calls Tryz.prog 172 #[.slice (some ⟨b,off,none⟩) k cap,.agg #[.int .i64 r.k,.int .i64 r.ho,.int .i64 r.hn,.int .i64 r.w,.int .i64 r.oo,.int .i64 r.on,.int .i64 r.to,.int .i64 r.tn]] w2 fun e w'=>e = .returned (.bool t)∧Below w2.heap.size w2 w'):=fun w2 hb=>by rw [ht];exact QG0 _ _ _ _ r w2 (by omega) (HX.out.below hb.2)
    have HT:Hid (t=decide (r∈zs.take k)):=ht
    clear ht
    cases t
    ·have HN:Hid (qL3 zs (k+1)=0):=QQ9 zs k r HS.out HP.out HO.out (by simpa using HT.out)
     go_wp2
     go_region_held3 (fun w'=>(∀ b o,b < w1.heap.size→w'.cell? ⟨b,o,none⟩=w1.cell? ⟨b,o,none⟩)∧Below w1.heap.size w1 w') (first | exact hS | exact qB4 _)
      (first | (go_at_call 172;refine (HC2.out _ (by assumption)).mono ?_;rintro e w' ⟨rfl,hb2⟩;have hS:=qA0 (by assumption) hb2))
     go_wp2
     exact ⟨⟨k+1,by omega,by go_num,HN.out,hnx1.trans (hS.2.mono hnx1.size)⟩,by simp [intOf];omega⟩
    ·have HI:Hid (c=6):=HC.out.symm.trans (qR6 zs (k+1) n 6 (by decide) (QF2 zs k r HS.out HP.out HO.out (by simpa using HT.out)) (by omega))
     go_wp2
     go_region_held3 (fun w'=>(∀ b o,b < w1.heap.size→w'.cell? ⟨b,o,none⟩=w1.cell? ⟨b,o,none⟩)∧Below w1.heap.size w1 w') (first | exact hS | exact qB4 _)
      (first | (go_at_call 172;refine (HC2.out _ (by assumption)).mono ?_;rintro e w' ⟨rfl,hb2⟩;have hS:=qA0 (by assumption) hb2))
     go_wp2
     go_ret
     exact ⟨by rw [HI.out];rfl,hnx1.trans (hS.2.mono hnx1.size)⟩
   ·have E:Hid (c=qA8 r):=(HC.out.symm.trans (qR6 zs (k+1) n _ hcode (QD6 zs k r HS.out HP.out hcode) (by omega)))
    obtain ⟨d,hd⟩:∃ d,d=qA8 r:=⟨_,rfl⟩
    rw [← hd] at hcode E ⊢
    clear hd
    have hne:(d != 0)=true:=by simpa using hcode
    go_wp2
    go_ret
    exact ⟨by rw [E.out];rfl,hnx1⟩
  ·have hkn:k=n:=by omega
   subst hkn
   have E:Hid (c=0):=HC.out.symm.trans HP.out
   go_wp2
   go_ret
   exact ⟨by rw [E.out];rfl,hnx⟩
theorem qV8 (a:Option Addr) (n cap:Nat) (zs:List qA1) (w:World) (hn:n≤1048576) (hcap:n≤cap) (hcm:cap≤maxLen) (h:qB6 w a n zs) :
  Calls Tryz.prog 148 #[.slice a n cap] w fun e w'=>e = .returned (.int .i64 (qC7 zs))∧Below w.heap.size w w':=by
 have hz:=h.1
 by_cases h16:16 < n
 ·have e:qC7 zs=2:=by simp [qC7,hz,h16]
  rw [e]
  exact QT8 a n cap w hn h16
 ·have e:qC7 zs=qL3 zs n:=by simp [qC7,hz,h16]
  rw [e]
  exact QY9 a n cap zs _ w (by omega) hcap hcm h rfl

def QX0 (f:Nat) (v:Value) (xs:List RoI):Prop:=∀ w:World,Calls Tryz.prog f #[v] w fun e w'=>∃ g:Nat,e = .returned (.slice (some ⟨g,0,none⟩) xs.length xs.length)∧(∀ j u,(QC5 xs)[j]? = some u→w'.cell? ((⟨g,0,none⟩:Addr).add j)=some u)∧Below w.heap.size w w'
theorem roles_1 (x:Int) (w:World):Calls Tryz.prog 253 #[.agg #[.int .i64 x]] w fun e w'=>e = .returned (.slice none 0 0)∧Below w.heap.size w w':=by
 go_enter Tryz.func253,Tryz.ntmps253
 go_wp2
 go_ret
 exact ⟨rfl,by go_grown⟩
theorem news_1 {w':World} {g:Nat} {o n:Int} (h0:w'.cell? ⟨g,0,none⟩=some (.int .i64 o)) (h1:w'.cell? ⟨g,1,none⟩=some (.int .i64 n)):∀ j u,(QC5 [(o,n)])[j]? = some u→w'.cell? ((⟨g,0,none⟩:Addr).add j)=some u:=by
 intro j u hj
 rw [Go.WideShapes.add_plain,Nat.zero_add]
 match j,hj with
 | 0,hj=>simp [QC5] at hj;subst hj;exact h0
 | 1,hj=>simp [QC5] at hj;subst hj;exact h1
theorem news_2 {w':World} {g:Nat} {o n p m:Int} (h0:w'.cell? ⟨g,0,none⟩=some (.int .i64 o)) (h1:w'.cell? ⟨g,1,none⟩=some (.int .i64 n)) (h2:w'.cell? ⟨g,2,none⟩=some (.int .i64 p)) (h3:w'.cell? ⟨g,3,none⟩=some (.int .i64 m)):∀ j u,(QC5 [(o,n),(p,m)])[j]? = some u→w'.cell? ((⟨g,0,none⟩:Addr).add j)=some u:=by
 intro j u hj
 rw [Go.WideShapes.add_plain,Nat.zero_add]
 match j,hj with
 | 0,hj=>simp [QC5] at hj;subst hj;exact h0
 | 1,hj=>simp [QC5] at hj;subst hj;exact h1
 | 2,hj=>simp [QC5] at hj;subst hj;exact h2
 | 3,hj=>simp [QC5] at hj;subst hj;exact h3
theorem roles_2 (o n:Int):QX0 254 (.agg #[.int .i64 o,.int .i64 n]) [(o,n)]:=by
 intro w
 go_enter Tryz.func254,Tryz.ntmps254
 go_wp2
 go_ret
 exact ⟨_,rfl,news_1 (by simp) (by simp),by go_grown⟩
theorem roles_3 (o n d:Int):QX0 255 (.agg #[.int .i64 o,.int .i64 n,.int .i64 d]) [(o,n)]:=by
 intro w
 go_enter Tryz.func255,Tryz.ntmps255
 go_wp2
 go_ret
 exact ⟨_,rfl,news_1 (by simp) (by simp),by go_grown⟩
theorem roles_4 (o n p m:Int):QX0 256 (.agg #[.int .i64 o,.int .i64 n,.int .i64 p,.int .i64 m]) [(o,n),(p,m)]:=by
 intro w
 go_enter Tryz.func256,Tryz.ntmps256
 go_wp2
 try go_quiet (fail)
 go_wp2
 go_ret
 first
  | exact ⟨_,rfl,news_2 (by simp) (by simp) (by simp) (by simp),by go_grown⟩
  | exact ⟨_,rfl,news_2 (by simp [go_sem]) (by simp [go_sem]) (by simp [go_sem]) (by simp [go_sem]),bdN (by go_grown) _⟩

section
open Go.RowKit Go.Sort Go.Proofs Go.Lib
def cmpI (x y:Int):Int:=if x < y then -1 else if y < x then 1 else 0
def orC (c d:Int):Int:=if c=0 then d else c
def cfR (p q:RoI):Int:=orC (cmpI p.1 q.1) (cmpI p.2 q.2)
end

end Go.Proofs.YtlhgjackapdmbaaGreatDoor
