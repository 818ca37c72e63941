/- Contracts. -/
import Derived.Test.YtlpgapdlepbgbaaGreatDoorPe06
import Derived.Test.YtlpgapdlepbgbaaGreatDoorPe13
import Derived.Deep.AppendLies
import Derived.Deep.DeepCutAuto
import Derived.Deep.CutBlock
namespace Go.Proofs.YtlpgapdlepbgbaaGreatDoor
set_option maxRecDepth 100000
set_option maxHeartbeats 8000000
open Go.RowKit
set_option linter.unusedVariables false
set_option linter.unusedSimpArgs false

section
attribute [local go_sem ↓] rule_eql
theorem l2Fault_many (a:Option Addr) (n cap:Nat) (w:World) (hn:n≤1048576) (h16:16 < n) :
  Calls Tryz.prog 114 #[.slice a n cap] w fun e w'=>e = .returned (.int .i64 2)∧Below w.heap.size w w':=by
 have h':(16:Int) < (n:Int):=by omega
 go_enter Tryz.func114,Tryz.ntmps114
 go_wp2
 go_ret
 exact ⟨rfl,Below.refl _ _⟩
theorem l2Fault_few (a:Option Addr) (n cap:Nat) (zs:List qA1) (c:Int) (w:World) (h16:n≤16) (h:qB6 w a n zs) (hc:qL3 zs n=c) :
  Calls Tryz.prog 114 #[.slice a n cap] w fun e w'=>e = .returned (.int .i64 c)∧Below w.heap.size w w':=by
 have H:Hid (qB6 w a n zs):=h
 have hz:Hid (zs.length=n):=h.1
 have HC:Hid (qL3 zs n=c):=hc
 clear h hc
 have h':¬ ((16:Int) < (n:Int)):=by omega
 go_enter Tryz.func114,Tryz.ntmps114
 go_wp2
 go_loopw [3] (fun i wr=>∃ k:Nat,k≤n∧i = .int .i64 (k:Int)∧qL3 zs k=0∧Below w.heap.size w wr) (fun i _=>n - (intOf i).toNat)
 case atStart=>exact ⟨0,Nat.zero_le _,rfl,rfl,Below.refl _ _⟩
 case round =>
  obtain ⟨k,hk,rfl,hp,hnx⟩:=hrel
  have HP:Hid (qL3 zs k=0):=hp
  clear hp
  by_cases hlt:k < n
  ·obtain ⟨b,off,r,rfl,hs,hr⟩:=H.out.at hlt
   have HS:Hid (zs[k]? = some r):=hs
   clear hs
   have hr1:Hid (qC6 wr b (off+k * 8) r):=hr.below hnx
   clear hr
   have hlt':(k:Int) < (n:Int):=by omega
   go_wp2_with fail
   refine (l2Rule_c b (off+k * 8) r _ hr1.out).mono ?_
   rintro e w1 ⟨rfl,hb1⟩
   have hnx1:Below w.heap.size w w1:=hnx.trans (hb1.mono hnx.size)
   have hr2:Hid (qC6 w1 b (off+k * 8) r):=hr1.out.below hb1
   clear hr1 hb1 hnx
   by_cases hcode:qA8 r=0
   ·rw [hcode]
    have HO:Hid (qA8 r=0):=hcode
    clear hcode
    go_wp2
    go_loopw [5] (fun i2 wq=>∃ j:Nat,j≤k∧i2 = .int .i64 (j:Int)∧¬ r∈zs.take j∧∃ m,wq=w1.drewN m) (fun i2 _=>k - (intOf i2).toNat)
    case atStart=>exact ⟨0,Nat.zero_le _,rfl,by simp,0,rfl⟩
    case round =>
     obtain ⟨j,hj,rfl,hm,m,rfl⟩:=hrel
     have HM:Hid (¬ r∈zs.take j):=hm
     clear hm
     by_cases hjk:j < k
     ·obtain ⟨s,hs2,hq⟩:=H.out.here (show j < n by omega)
      have HS2:Hid (zs[j]? = some s):=hs2
      clear hs2
      obtain ⟨h0,h1,h2,h3,h4,h5,h6,h7⟩:=hr2.out
      obtain ⟨g0,g1,g2,g3,g4,g5,g6,g7⟩:=hq.below hnx1
      clear hq
      have hjk':(j:Int) < (k:Int):=by omega
      cases hsame:QF1 s r
      ·have HF:Hid (QF1 s r=false):=hsame
       have HN:Hid (¬ r∈zs.take (j+1)):=by
        show ¬ r∈zs.take (j+1)
        rw [qP9]
        rintro ⟨i,hi,his⟩
        by_cases e:i=j
        ·subst e
         rw [HS2.out] at his
         simp [QF1] at hsame
         exact hsame (Option.some.inj his)
        ·exact HM.out ((qP9 _ _ _).2 ⟨i,by omega,his⟩)
       clear hsame
       have hsame:QF1 s r=false:=HF.out
       go_wp2
       go_quiet (fail)
       go_wp2
       exact ⟨⟨j+1,by omega,by go_num,HN.out,_,rfl⟩,by simp [intOf];omega⟩
      ·have HI:Hid (c=6):=by
        show c=6
        simp [QF1] at hsame
        subst hsame
        exact HC.out.symm.trans (qR6 zs (k+1) n 6 (by decide) (QF2 zs k s HS.out HP.out HO.out ((qP9 _ _ _).2 ⟨j,hjk,HS2.out⟩)) (by omega))
       go_wp2
       go_quiet (fail)
       go_wp2
       go_ret
       exact ⟨by rw [HI.out];rfl,by first | exact bdN hnx1 _ | exact bdN (bdN hnx1 _) _⟩
     ·have hjn:j=k:=by omega
      subst hjn
      have HN:Hid (qL3 zs (j+1)=0):=QQ9 zs j r HS.out HP.out HO.out HM.out
      go_wp2
      exact ⟨⟨j+1,by omega,by go_num,HN.out,by first | exact hnx1 | exact bdN hnx1 _⟩,by simp [intOf];omega⟩
   ·have E:Hid (c=qA8 r):=(HC.out.symm.trans (qR6 zs (k+1) n _ hcode (QD6 zs k r HS.out HP.out hcode) (by omega)))
    obtain ⟨d,hd⟩:∃ d,d=qA8 r:=⟨_,rfl⟩
    rw [← hd] at hcode E ⊢
    clear hd
    have hne:(d != 0)=true:=by simpa using hcode
    go_wp2
    go_ret
    exact ⟨by rw [E.out];rfl,hnx1⟩
  ·have hkn:k=n:=by omega
   subst hkn
   have E:Hid (c=0):=HC.out.symm.trans HP.out
   go_wp2
   go_ret
   exact ⟨by rw [E.out];rfl,hnx⟩
theorem l2Fault_c (a:Option Addr) (n cap:Nat) (zs:List qA1) (w:World) (hn:n≤1048576) (h:qB6 w a n zs) :
  Calls Tryz.prog 114 #[.slice a n cap] w fun e w'=>e = .returned (.int .i64 (qC7 zs))∧Below w.heap.size w w':=by
 have hz:=h.1
 by_cases h16:16 < n
 ·have e:qC7 zs=2:=by simp [qC7,hz,h16]
  rw [e]
  exact l2Fault_many a n cap w hn h16
 ·have e:qC7 zs=qL3 zs n:=by simp [qC7,hz,h16]
  rw [e]
  exact l2Fault_few a n cap zs _ w (by omega) h rfl
end

def SameM (ys:List RoI) (xs:List RoI):Prop:=∀ x,x∈ys↔x∈xs
structure PutS (w wr:World) (v:Value) (xs:List RoI):Prop where
 ex:∃ (g m cap:Nat) (ys:List RoI),v = .slice (some ⟨g,0,none⟩) m cap∧m=ys.length∧m≤xs.length∧Owns2 wr w.heap.size (.slice (some ⟨g,0,none⟩) m cap) ys∧SS ys∧SameM ys xs
 bel:Below w.heap.size w wr

end Go.Proofs.YtlpgapdlepbgbaaGreatDoor
