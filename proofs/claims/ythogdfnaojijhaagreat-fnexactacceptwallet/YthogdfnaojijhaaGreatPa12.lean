/- Contracts. -/
import Derived.Test.YthogdfnaojijhaaGreatPa10
import Derived.Test.YthogdfnaojijhaaGreatPa11
import Derived.Test.YthogdfnaojijhaaGreatPa09
import Derived.Test.YthogdfnaojijhaaGreatPa07
import Derived.Deep.AppendLies
import Derived.Deep.DeepCutAuto
import Derived.Deep.CutBlock
import Derived.Laws.AppendOwnNone
namespace Go.Proofs.YthogdfnaojijhaaGreat
set_option maxRecDepth 100000
set_option maxHeartbeats 8000000
open Go.RowKit
set_option linter.unusedVariables false
set_option linter.unusedSimpArgs false

section
attribute [local go_sem ↓] QU5
theorem slIndex_c (a:Option Addr) (n cap:Nat) (zs:List qA0) (r:qA0) (w:World) (hn:n≤1048576) (h:qA4 w a n zs) :
  Calls Tryz.prog 195 #[.slice a n cap,.agg #[.int .i64 r.k,.int .i64 r.ho,.int .i64 r.hn,.int .i64 r.w,.int .i64 r.oo,.int .i64 r.on,.int .i64 r.to,.int .i64 r.tn]] w fun e w'=>(∃ i:Int,e = .returned (.int .i64 i)∧((0≤i∧r∈zs)∨(i = -1∧¬ r∈zs)))∧Below w.heap.size w w':=by
 have H:Hid (qA4 w a n zs):=h
 have hz:Hid (zs.length=n):=h.1
 clear h
 have hn':(n:Int)≤1048576:=by omega
 have HB:Hid (qB0 (w.alloc (.cells #[.int .i64 r.k,.int .i64 r.ho,.int .i64 r.hn,.int .i64 r.w,.int .i64 r.oo,.int .i64 r.on,.int .i64 r.to,.int .i64 r.tn] 149)) w.heap.size 0 r):=qB0.new w r _
 go_enter Tryz.func195,Tryz.ntmps195
 go_wp2
 go_loopw [8] (fun i wr=>∃ k:Nat,k≤n∧i = .int .i64 (k:Int)∧¬ r∈zs.take k∧∃ m,wr=(w.alloc (.cells #[.int .i64 r.k,.int .i64 r.ho,.int .i64 r.hn,.int .i64 r.w,.int .i64 r.oo,.int .i64 r.on,.int .i64 r.to,.int .i64 r.tn] 149)).drewN m) (fun i _=>n - (intOf i).toNat)
 case atStart=>exact ⟨0,Nat.zero_le _,rfl,by simp,0,rfl⟩
 case round =>
  obtain ⟨k,hk,rfl,hm,m,rfl⟩:=hrel
  have HM:Hid (¬ r∈zs.take k):=hm
  clear hm
  by_cases hlt:k < n
  ·obtain ⟨b,off,s,rfl,hs,hr⟩:=H.out.at hlt
   have HS:Hid (zs[k]? = some s):=hs
   clear hs
   have hb:b < w.heap.size:=zL w ⟨b,off+k * 8,none⟩ hr.1
   obtain ⟨h0,h1,h2,h3,h4,h5,h6,h7⟩:=hr
   obtain ⟨b0,b1,b2,b3,b4,b5,b6,b7⟩:=HB.out
   simp only [Nat.zero_add] at b0 b1 b2 b3 b4 b5 b6 b7
   have hlt':(k:Int) < (n:Int):=by omega
   cases hsame:qV3 r s
   ·have HF:Hid (qV3 r s=false):=hsame
    have HN:Hid (¬ r∈zs.take (k+1)):=by
     show ¬ r∈zs.take (k+1)
     rw [qI9]
     rintro ⟨j,hj,hjs⟩
     by_cases e:j=k
     ·subst e
      rw [HS.out] at hjs
      simp [qV3] at hsame
      exact hsame (Option.some.inj hjs).symm
     ·exact HM.out ((qI9 _ _ _).2 ⟨j,by omega,hjs⟩)
    clear hsame
    have hsame:qV3 r s=false:=HF.out
    go_wp2
    go_quiet (fail)
    go_wp2
    exact ⟨⟨k+1,by omega,by go_num,HN.out,_,rfl⟩,by simp [intOf];omega⟩
   ·have HI:Hid (r∈zs):=by
     show r∈zs
     simp [qV3] at hsame
     subst hsame
     exact List.mem_of_getElem? HS.out
    go_wp2
    go_quiet (fail)
    go_wp2
    go_ret
    exact ⟨⟨_,rfl,Or.inl ⟨by omega,HI.out⟩⟩,by first | exact bdN (zN) _ | exact bdN (bdN (zN) _) _⟩
  ·have hkn:k=n:=by omega
   subst hkn
   have HN:Hid (¬ r∈zs):=by
    have:=HM.out
    rw [List.take_of_length_le (by rw [hz.out];exact Nat.le_refl _)] at this
    exact this
   go_wp2
   go_ret
   exact ⟨⟨_,rfl,Or.inr ⟨rfl,HN.out⟩⟩,bdN (by go_grown) _⟩
theorem qW0 (a:Option Addr) (n cap:Nat) (zs:List qA0) (r:qA0) (w:World) (hn:n≤1048576) (h:qA4 w a n zs) :
  Calls Tryz.prog 176 #[.slice a n cap,.agg #[.int .i64 r.k,.int .i64 r.ho,.int .i64 r.hn,.int .i64 r.w,.int .i64 r.oo,.int .i64 r.on,.int .i64 r.to,.int .i64 r.tn]] w fun e w'=>e = .returned (.bool (decide (r∈zs)))∧Below w.heap.size w w':=by
 have H:Hid (qA4 (w.alloc (.cells #[.int .i64 r.k,.int .i64 r.ho,.int .i64 r.hn,.int .i64 r.w,.int .i64 r.oo,.int .i64 r.on,.int .i64 r.to,.int .i64 r.tn] 149)) a n zs):=h.below (zN)
 clear h
 have HB:Hid (qB0 (w.alloc (.cells #[.int .i64 r.k,.int .i64 r.ho,.int .i64 r.hn,.int .i64 r.w,.int .i64 r.oo,.int .i64 r.on,.int .i64 r.to,.int .i64 r.tn] 149)) w.heap.size 0 r):=qB0.new w r _
 obtain ⟨b0,b1,b2,b3,b4,b5,b6,b7⟩:=HB.out
 simp only [Nat.zero_add] at b0 b1 b2 b3 b4 b5 b6 b7
 go_enter Tryz.func176,Tryz.ntmps176
 go_wp2_with fail
 refine (slIndex_c a n cap zs r _ hn H.out).mono ?_
 rintro e w1 ⟨⟨i,rfl,hi⟩,hb1⟩
 have HX:Hid (decide (0≤i)=decide (r∈zs)):=by
  show decide (0≤i)=decide (r∈zs)
  rcases hi with ⟨h1,h2⟩ | ⟨rfl,h2⟩
  ·simp [h1,h2]
  ·simp [h2]
 clear hi b0 b1 b2 b3 b4 b5 b6 b7
 go_wp2
 go_ret
 exact ⟨by rw [HX.out];rfl,qC0 hb1⟩
end

theorem qL8 (r:qA0) (t:TypeId) (v:Value) (w:World) (hk:1≤r.k∧r.k≤4)
  (HO:Hid (∀ w:World,Calls Tryz.prog 191 #[.agg #[.int .i64 r.k,.int .i64 r.ho,.int .i64 r.hn,.int .i64 r.w,.int .i64 r.oo,.int .i64 r.on,.int .i64 r.to,.int .i64 r.tn]] w fun e w'=>e = .returned (.iface t v)∧Below w.heap.size w w'))
  (HF:Hid (∀ w:World,Calls Tryz.prog 194 #[.iface t v] w fun e w'=>e = .returned (.int .i64 (if qU5 r=true then 0 else 3))∧Below w.heap.size w w')) :
  Calls Tryz.prog 175 #[.agg #[.int .i64 r.k,.int .i64 r.ho,.int .i64 r.hn,.int .i64 r.w,.int .i64 r.oo,.int .i64 r.on,.int .i64 r.to,.int .i64 r.tn]] w fun e w'=>e = .returned (.int .i64 (qA2 r))∧Below w.heap.size w w':=by
 have hX:Hid (qB0 (w.alloc (Obj.cells #[.int .i64 r.k,.int .i64 r.ho,.int .i64 r.hn,.int .i64 r.w,.int .i64 r.oo,.int .i64 r.on,.int .i64 r.to,.int .i64 r.tn] 149)) w.heap.size 0 r):=qB0.new w r _
 cases hr:qB4 r.ho r.hn
 ·have E:Hid (qA2 r=3):=by show qA2 r=3;simp [qA2,hk,hr]
  have hc:qC2 r.ho r.hn=3:=by simp [qC2,hr]
  have hb:Below (w.alloc (Obj.cells #[.int .i64 r.k,.int .i64 r.ho,.int .i64 r.hn,.int .i64 r.w,.int .i64 r.oo,.int .i64 r.on,.int .i64 r.to,.int .i64 r.tn] 149)).heap.size (w.alloc (Obj.cells #[.int .i64 r.k,.int .i64 r.ho,.int .i64 r.hn,.int .i64 r.w,.int .i64 r.oo,.int .i64 r.on,.int .i64 r.to,.int .i64 r.tn] 149)) (w.alloc (Obj.cells #[.int .i64 r.k,.int .i64 r.ho,.int .i64 r.hn,.int .i64 r.w,.int .i64 r.oo,.int .i64 r.on,.int .i64 r.to,.int .i64 r.tn] 149)):=Below.refl _ _
  obtain ⟨h0,h1,h2,h3,h4,h5,h6,h7⟩:=hX.out
  simp only [Nat.zero_add] at h0 h1 h2 h3 h4 h5 h6 h7
  go_enter Tryz.func175,Tryz.ntmps175
  go_wp2_with (first | (go_at_call 191;refine (HO.out _).mono ?_;rintro e w1 ⟨rfl,hb1⟩;replace hb:=hb.trans (hb1.mono hb.size);clear h0 h1 h2 h3 h4 h5 h6 h7 hb1;obtain ⟨h0,h1,h2,h3,h4,h5,h6,h7⟩:=hX.out.below hb;simp only [Nat.zero_add] at h0 h1 h2 h3 h4 h5 h6 h7) | (go_at_call 192;refine (qB2 _ _ _).mono ?_;rintro e w1 ⟨rfl,hb1⟩;replace hb:=hb.trans (hb1.mono hb.size);clear h0 h1 h2 h3 h4 h5 h6 h7 hb1;obtain ⟨h0,h1,h2,h3,h4,h5,h6,h7⟩:=hX.out.below hb;simp only [Nat.zero_add] at h0 h1 h2 h3 h4 h5 h6 h7;rw [hc]))
  go_ret
  exact ⟨by rw [E.out];rfl,qC0 hb⟩
 ·have hc:qC2 r.ho r.hn=0:=by simp [qC2,hr]
  cases hbr:QB0 r
  ·have E:Hid (qA2 r=1):=by show qA2 r=1;simp [qA2,hk,hr,hbr]
   have hb:Below (w.alloc (Obj.cells #[.int .i64 r.k,.int .i64 r.ho,.int .i64 r.hn,.int .i64 r.w,.int .i64 r.oo,.int .i64 r.on,.int .i64 r.to,.int .i64 r.tn] 149)).heap.size (w.alloc (Obj.cells #[.int .i64 r.k,.int .i64 r.ho,.int .i64 r.hn,.int .i64 r.w,.int .i64 r.oo,.int .i64 r.on,.int .i64 r.to,.int .i64 r.tn] 149)) (w.alloc (Obj.cells #[.int .i64 r.k,.int .i64 r.ho,.int .i64 r.hn,.int .i64 r.w,.int .i64 r.oo,.int .i64 r.on,.int .i64 r.to,.int .i64 r.tn] 149)):=Below.refl _ _
   obtain ⟨h0,h1,h2,h3,h4,h5,h6,h7⟩:=hX.out
   simp only [Nat.zero_add] at h0 h1 h2 h3 h4 h5 h6 h7
   go_enter Tryz.func175,Tryz.ntmps175
   go_wp2_with (first | (go_at_call 191;refine (HO.out _).mono ?_;rintro e w1 ⟨rfl,hb1⟩;replace hb:=hb.trans (hb1.mono hb.size);clear h0 h1 h2 h3 h4 h5 h6 h7 hb1;obtain ⟨h0,h1,h2,h3,h4,h5,h6,h7⟩:=hX.out.below hb;simp only [Nat.zero_add] at h0 h1 h2 h3 h4 h5 h6 h7) | (go_at_call 192;refine (qB2 _ _ _).mono ?_;rintro e w1 ⟨rfl,hb1⟩;replace hb:=hb.trans (hb1.mono hb.size);clear h0 h1 h2 h3 h4 h5 h6 h7 hb1;obtain ⟨h0,h1,h2,h3,h4,h5,h6,h7⟩:=hX.out.below hb;simp only [Nat.zero_add] at h0 h1 h2 h3 h4 h5 h6 h7;rw [hc]) | (go_at_call 193;refine (QE5 r hk _).mono ?_;rintro e w1 ⟨rfl,hb1⟩;replace hb:=hb.trans (hb1.mono hb.size);clear h0 h1 h2 h3 h4 h5 h6 h7 hb1;obtain ⟨h0,h1,h2,h3,h4,h5,h6,h7⟩:=hX.out.below hb;simp only [Nat.zero_add] at h0 h1 h2 h3 h4 h5 h6 h7;rw [hbr]))
   go_ret
   exact ⟨by rw [E.out];rfl,qC0 hb⟩
  ·have E:Hid (qA2 r=if qU5 r=true then 0 else 3):=by show qA2 r=if qU5 r=true then 0 else 3;simp [qA2,hk,hr,hbr];cases qU5 r <;> rfl
   obtain ⟨c,hcc⟩:∃ c:Int,c=if qU5 r=true then 0 else 3:=⟨_,rfl⟩
   rw [← hcc] at HF E
   clear hcc
   have hb:Below (w.alloc (Obj.cells #[.int .i64 r.k,.int .i64 r.ho,.int .i64 r.hn,.int .i64 r.w,.int .i64 r.oo,.int .i64 r.on,.int .i64 r.to,.int .i64 r.tn] 149)).heap.size (w.alloc (Obj.cells #[.int .i64 r.k,.int .i64 r.ho,.int .i64 r.hn,.int .i64 r.w,.int .i64 r.oo,.int .i64 r.on,.int .i64 r.to,.int .i64 r.tn] 149)) (w.alloc (Obj.cells #[.int .i64 r.k,.int .i64 r.ho,.int .i64 r.hn,.int .i64 r.w,.int .i64 r.oo,.int .i64 r.on,.int .i64 r.to,.int .i64 r.tn] 149)):=Below.refl _ _
   obtain ⟨h0,h1,h2,h3,h4,h5,h6,h7⟩:=hX.out
   simp only [Nat.zero_add] at h0 h1 h2 h3 h4 h5 h6 h7
   go_enter Tryz.func175,Tryz.ntmps175
   go_wp2_with (first | (go_at_call 191;refine (HO.out _).mono ?_;rintro e w1 ⟨rfl,hb1⟩;replace hb:=hb.trans (hb1.mono hb.size);clear h0 h1 h2 h3 h4 h5 h6 h7 hb1;obtain ⟨h0,h1,h2,h3,h4,h5,h6,h7⟩:=hX.out.below hb;simp only [Nat.zero_add] at h0 h1 h2 h3 h4 h5 h6 h7) | (go_at_call 192;refine (qB2 _ _ _).mono ?_;rintro e w1 ⟨rfl,hb1⟩;replace hb:=hb.trans (hb1.mono hb.size);clear h0 h1 h2 h3 h4 h5 h6 h7 hb1;obtain ⟨h0,h1,h2,h3,h4,h5,h6,h7⟩:=hX.out.below hb;simp only [Nat.zero_add] at h0 h1 h2 h3 h4 h5 h6 h7;rw [hc]) | (go_at_call 193;refine (QE5 r hk _).mono ?_;rintro e w1 ⟨rfl,hb1⟩;replace hb:=hb.trans (hb1.mono hb.size);clear h0 h1 h2 h3 h4 h5 h6 h7 hb1;obtain ⟨h0,h1,h2,h3,h4,h5,h6,h7⟩:=hX.out.below hb;simp only [Nat.zero_add] at h0 h1 h2 h3 h4 h5 h6 h7;rw [hbr]) | (go_at_call 194;refine (HF.out _).mono ?_;rintro e w1 ⟨rfl,hb1⟩;replace hb:=hb.trans (hb1.mono hb.size);clear h0 h1 h2 h3 h4 h5 h6 h7 hb1;obtain ⟨h0,h1,h2,h3,h4,h5,h6,h7⟩:=hX.out.below hb;simp only [Nat.zero_add] at h0 h1 h2 h3 h4 h5 h6 h7))
   go_ret
   exact ⟨by rw [E.out];rfl,qC0 hb⟩
theorem qZ7 (r:qA0) (w:World) :
  Calls Tryz.prog 175 #[.agg #[.int .i64 r.k,.int .i64 r.ho,.int .i64 r.hn,.int .i64 r.w,.int .i64 r.oo,.int .i64 r.on,.int .i64 r.to,.int .i64 r.tn]] w fun e w' =>
   e = .returned (.int .i64 (qA2 r))∧Below w.heap.size w w':=by
 by_cases hk:1≤r.k∧r.k≤4
 ·have hk':r.k=1∨r.k=2∨r.k=3∨r.k=4:=by omega
  rcases hk' with e | e | e | e
  ·have e2:qU5 r=qM6 r.w:=by simp [qU5,e]
   exact qL8 r _ _ w hk (QI5 r e) (fun w=>by rw [e2];exact QT1 r.w w)
  ·have e2:qU5 r=qB4 r.oo r.on:=by simp [qU5,e]
   exact qL8 r _ _ w hk (QI4 r e) (fun w=>by rw [e2];exact QT0 r.oo r.on w)
  ·have e2:qU5 r=(qB4 r.oo r.on&&qN3 r.tn):=by simp [qU5,e]
   exact qL8 r _ _ w hk (qX8 r e) (fun w=>by rw [e2];exact QS9 r.oo r.on r.tn w)
  ·have e2:qU5 r=(qB4 r.oo r.on&&qB4 r.to r.tn):=by simp [qU5,e]
   exact qL8 r _ _ w hk (QI3 r e) (fun w=>by rw [e2];exact QS8 r.oo r.on r.to r.tn w)
 ·have E:Hid (qA2 r=1):=by show qA2 r=1;simp [qA2,hk]
  go_enter Tryz.func175,Tryz.ntmps175
  go_wp2_with (first | (go_at_call 191;refine (bodyOf_0 r hk _).mono ?_;rintro e w1 ⟨rfl,hb1⟩))
  go_ret
  exact ⟨by rw [E.out];rfl,qC0 hb1⟩

theorem QG3 (a:Option Addr) (n cap:Nat) (w:World) (hn:n≤1048576) (h16:16 < n) :
  Calls Tryz.prog 158 #[.slice a n cap] w fun e w'=>e = .returned (.int .i64 2)∧Below w.heap.size w w':=by
 have h':(16:Int) < (n:Int):=by omega
 go_enter Tryz.func158,Tryz.ntmps158
 go_wp2
 go_ret
 exact ⟨rfl,Below.refl _ _⟩
theorem QL2 (a:Option Addr) (n cap:Nat) (zs:List qA0) (c:Int) (w:World) (h16:n≤16) (hcap:n≤cap) (hcm:cap≤maxLen) (h:qA4 w a n zs) (hc:qF5 zs n=c) :
  Calls Tryz.prog 158 #[.slice a n cap] w fun e w'=>e = .returned (.int .i64 c)∧Below w.heap.size w w':=by
 have H:Hid (qA4 w a n zs):=h
 have hz:Hid (zs.length=n):=h.1
 have HC:Hid (qF5 zs n=c):=hc
 clear h hc
 have h':¬ ((16:Int) < (n:Int)):=by omega
 go_enter Tryz.func158,Tryz.ntmps158
 go_wp2
 go_loopw [11] (fun i wr=>∃ k:Nat,k≤n∧i = .int .i64 (k:Int)∧qF5 zs k=0∧Below w.heap.size w wr) (fun i _=>n - (intOf i).toNat)
 case atStart=>exact ⟨0,Nat.zero_le _,rfl,rfl,Below.refl _ _⟩
 case round =>
  obtain ⟨k,hk,rfl,hp,hnx⟩:=hrel
  have HP:Hid (qF5 zs k=0):=hp
  clear hp
  by_cases hlt:k < n
  ·obtain ⟨b,off,r,rfl,hs,hr⟩:=H.out.at hlt
   have HS:Hid (zs[k]? = some r):=hs
   clear hs
   obtain ⟨h0,h1,h2,h3,h4,h5,h6,h7⟩:=hr.below hnx
   clear hr
   have hlt':(k:Int) < (n:Int):=by omega
   go_wp2_with fail
   refine (qZ7 r _).mono ?_
   rintro e w1 ⟨rfl,hb1⟩
   have hz1:=hb1.size
   simp only [World.size_alloc] at hz1
   have hnx1:Below w.heap.size w w1:=hnx.trans ((qC0 hb1).mono hnx.size)
   have hlt1:wr.heap.size < w1.heap.size:=by omega
   have hR:Hid (qB0 w1 wr.heap.size 0 r):=(qB0.new wr r _).below hb1
   clear h0 h1 h2 h3 h4 h5 h6 h7 hb1
   by_cases hcode:qA2 r=0
   ·rw [hcode]
    have HO:Hid (qA2 r=0):=hcode
    clear hcode
    have HX:Hid (qA4 w1 (some ⟨b,off,none⟩) k (zs.take k)):=(H.out.cut hk).below hnx1
    have hkc:(k:Int)≤(cap:Int):=by omega
    have hk0:(0:Int)≤(k:Int):=by omega
    obtain ⟨h0,h1,h2,h3,h4,h5,h6,h7⟩:=hR.out
    simp only [Nat.zero_add] at h0 h1 h2 h3 h4 h5 h6 h7
    obtain ⟨t,ht⟩:∃ t,t=decide (r∈zs.take k):=⟨_,rfl⟩
    have HC2:Hid (∀ w2:World,(∀ b o,b < w1.heap.size→w2.cell? ⟨b,o,none⟩=w1.cell? ⟨b,o,none⟩)∧Below w1.heap.size w1 w2→Calls Tryz.prog 176 #[.slice (some ⟨b,off,none⟩) k cap,.agg #[.int .i64 r.k,.int .i64 r.ho,.int .i64 r.hn,.int .i64 r.w,.int .i64 r.oo,.int .i64 r.on,.int .i64 r.to,.int .i64 r.tn]] w2 fun e w'=>e = .returned (.bool t)∧Below w2.heap.size w2 w'):=fun w2 hb=>by rw [ht];exact qW0 _ _ _ _ r w2 (by omega) (HX.out.below hb.2)
    have HT:Hid (t=decide (r∈zs.take k)):=ht
    clear ht
    cases t
    ·have HN:Hid (qF5 zs (k+1)=0):=QE0 zs k r HS.out HP.out HO.out (by simpa using HT.out)
     go_wp2
     go_region_held3 (fun w'=>(∀ b o,b < w1.heap.size→w'.cell? ⟨b,o,none⟩=w1.cell? ⟨b,o,none⟩)∧Below w1.heap.size w1 w') (first | exact hS | exact qB6 _)
      (first | (go_at_call 176;refine (HC2.out _ (by assumption)).mono ?_;rintro e w' ⟨rfl,hb2⟩;have hS:=qA8 (by assumption) hb2))
     go_wp2
     exact ⟨⟨k+1,by omega,by go_num,HN.out,hnx1.trans (hS.2.mono hnx1.size)⟩,by simp [intOf];omega⟩
    ·have HI:Hid (c=6):=HC.out.symm.trans (qK4 zs (k+1) n 6 (by decide) (qV4 zs k r HS.out HP.out HO.out (by simpa using HT.out)) (by omega))
     go_wp2
     go_region_held3 (fun w'=>(∀ b o,b < w1.heap.size→w'.cell? ⟨b,o,none⟩=w1.cell? ⟨b,o,none⟩)∧Below w1.heap.size w1 w') (first | exact hS | exact qB6 _)
      (first | (go_at_call 176;refine (HC2.out _ (by assumption)).mono ?_;rintro e w' ⟨rfl,hb2⟩;have hS:=qA8 (by assumption) hb2))
     go_wp2
     go_ret
     exact ⟨by rw [HI.out];rfl,hnx1.trans (hS.2.mono hnx1.size)⟩
   ·have E:Hid (c=qA2 r):=(HC.out.symm.trans (qK4 zs (k+1) n _ hcode (qT3 zs k r HS.out HP.out hcode) (by omega)))
    obtain ⟨d,hd⟩:∃ d,d=qA2 r:=⟨_,rfl⟩
    rw [← hd] at hcode E ⊢
    clear hd
    have hne:(d != 0)=true:=by simpa using hcode
    go_wp2
    go_ret
    exact ⟨by rw [E.out];rfl,hnx1⟩
  ·have hkn:k=n:=by omega
   subst hkn
   have E:Hid (c=0):=HC.out.symm.trans HP.out
   go_wp2
   go_ret
   exact ⟨by rw [E.out];rfl,hnx⟩
theorem qN5 (a:Option Addr) (n cap:Nat) (zs:List qA0) (w:World) (hn:n≤1048576) (hcap:n≤cap) (hcm:cap≤maxLen) (h:qA4 w a n zs) :
  Calls Tryz.prog 158 #[.slice a n cap] w fun e w'=>e = .returned (.int .i64 (qA7 zs))∧Below w.heap.size w w':=by
 have hz:=h.1
 by_cases h16:16 < n
 ·have e:qA7 zs=2:=by simp [qA7,hz,h16]
  rw [e]
  exact QG3 a n cap w hn h16
 ·have e:qA7 zs=qF5 zs n:=by simp [qA7,hz,h16]
  rw [e]
  exact QL2 a n cap zs _ w (by omega) hcap hcm h rfl

def QJ3 (f:Nat) (v:Value) (xs:List RoI):Prop:=∀ w:World,Calls Tryz.prog f #[v] w fun e w'=>∃ g:Nat,e = .returned (.slice (some ⟨g,0,none⟩) xs.length xs.length)∧(∀ j u,(qS6 xs)[j]? = some u→w'.cell? ((⟨g,0,none⟩:Addr).add j)=some u)∧Below w.heap.size w w'
theorem roles_1 (x:Int) (w:World):Calls Tryz.prog 239 #[.agg #[.int .i64 x]] w fun e w'=>e = .returned (.slice none 0 0)∧Below w.heap.size w w':=by
 go_enter Tryz.func239,Tryz.ntmps239
 go_wp2
 go_ret
 exact ⟨rfl,by go_grown⟩
theorem news_1 {w':World} {g:Nat} {o n:Int} (h0:w'.cell? ⟨g,0,none⟩=some (.int .i64 o)) (h1:w'.cell? ⟨g,1,none⟩=some (.int .i64 n)):∀ j u,(qS6 [(o,n)])[j]? = some u→w'.cell? ((⟨g,0,none⟩:Addr).add j)=some u:=by
 intro j u hj
 rw [Go.WideShapes.add_plain,Nat.zero_add]
 match j,hj with
 | 0,hj=>simp [qS6] at hj;subst hj;exact h0
 | 1,hj=>simp [qS6] at hj;subst hj;exact h1
theorem news_2 {w':World} {g:Nat} {o n p m:Int} (h0:w'.cell? ⟨g,0,none⟩=some (.int .i64 o)) (h1:w'.cell? ⟨g,1,none⟩=some (.int .i64 n)) (h2:w'.cell? ⟨g,2,none⟩=some (.int .i64 p)) (h3:w'.cell? ⟨g,3,none⟩=some (.int .i64 m)):∀ j u,(qS6 [(o,n),(p,m)])[j]? = some u→w'.cell? ((⟨g,0,none⟩:Addr).add j)=some u:=by
 intro j u hj
 rw [Go.WideShapes.add_plain,Nat.zero_add]
 match j,hj with
 | 0,hj=>simp [qS6] at hj;subst hj;exact h0
 | 1,hj=>simp [qS6] at hj;subst hj;exact h1
 | 2,hj=>simp [qS6] at hj;subst hj;exact h2
 | 3,hj=>simp [qS6] at hj;subst hj;exact h3
theorem roles_2 (o n:Int):QJ3 240 (.agg #[.int .i64 o,.int .i64 n]) [(o,n)]:=by
 intro w
 go_enter Tryz.func240,Tryz.ntmps240
 go_wp2
 go_ret
 exact ⟨_,rfl,news_1 (by simp) (by simp),by go_grown⟩
theorem roles_3 (o n d:Int):QJ3 241 (.agg #[.int .i64 o,.int .i64 n,.int .i64 d]) [(o,n)]:=by
 intro w
 go_enter Tryz.func241,Tryz.ntmps241
 go_wp2
 go_ret
 exact ⟨_,rfl,news_1 (by simp) (by simp),by go_grown⟩
theorem roles_4 (o n p m:Int):QJ3 242 (.agg #[.int .i64 o,.int .i64 n,.int .i64 p,.int .i64 m]) [(o,n),(p,m)]:=by
 intro w
 go_enter Tryz.func242,Tryz.ntmps242
 go_wp2
 try go_quiet (fail)
 go_wp2
 go_ret
 first
  | exact ⟨_,rfl,news_2 (by simp) (by simp) (by simp) (by simp),by go_grown⟩
  | exact ⟨_,rfl,news_2 (by simp [go_sem]) (by simp [go_sem]) (by simp [go_sem]) (by simp [go_sem]),bdN (by go_grown) _⟩

end Go.Proofs.YthogdfnaojijhaaGreat
