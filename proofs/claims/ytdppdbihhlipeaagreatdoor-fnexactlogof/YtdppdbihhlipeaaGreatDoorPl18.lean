/- Contracts. -/
import Derived.Test.YtdppdbihhlipeaaGreatDoorPl04
import Derived.Test.YtdppdbihhlipeaaGreatDoorRows
import Derived.OpenVars
import Derived.Stop.LaidErr
import Derived.LaidLaws
namespace Go.Proofs.YtdppdbihhlipeaaGreatDoor
set_option maxRecDepth 100000
set_option maxHeartbeats 8000000
open Go.RowKit
set_option linter.unusedVariables false
set_option linter.unusedSimpArgs false

section
attribute [local go_sem ↓] rule_eql
theorem slIndex_c (a:Option Addr) (n cap:Nat) (zs:List qA0) (r:qA0) (w:World) (hn:n≤1048576) (h:qB5 w a n zs) :
  Calls Tryz.prog 200 #[.slice a n cap,.agg #[.int .i64 r.k,.int .i64 r.ho,.int .i64 r.hn,.int .i64 r.w,.int .i64 r.oo,.int .i64 r.on,.int .i64 r.to,.int .i64 r.tn]] w fun e w'=>(∃ i:Int,e = .returned (.int .i64 i)∧((0≤i∧r∈zs)∨(i = -1∧¬ r∈zs)))∧Below w.heap.size w w':=by
 have H:Hid (qB5 w a n zs):=h
 have hz:Hid (zs.length=n):=h.1
 clear h
 have hn':(n:Int)≤1048576:=by omega
 have HB:Hid (qC2 (w.alloc (.cells #[.int .i64 r.k,.int .i64 r.ho,.int .i64 r.hn,.int .i64 r.w,.int .i64 r.oo,.int .i64 r.on,.int .i64 r.to,.int .i64 r.tn] 125)) w.heap.size 0 r):=qC2.new w r _
 go_enter Tryz.func200,Tryz.ntmps200
 go_wp2
 go_loopw [8] (fun i wr=>∃ k:Nat,k≤n∧i = .int .i64 (k:Int)∧¬ r∈zs.take k∧∃ m,wr=(w.alloc (.cells #[.int .i64 r.k,.int .i64 r.ho,.int .i64 r.hn,.int .i64 r.w,.int .i64 r.oo,.int .i64 r.on,.int .i64 r.to,.int .i64 r.tn] 125)).drewN m) (fun i _=>n - (intOf i).toNat)
 case atStart=>exact ⟨0,Nat.zero_le _,rfl,by simp,0,rfl⟩
 case round =>
  obtain ⟨k,hk,rfl,hm,m,rfl⟩:=hrel
  have HM:Hid (¬ r∈zs.take k):=hm
  clear hm
  by_cases hlt:k < n
  ·obtain ⟨b,off,s,rfl,hs,hr⟩:=H.out.at hlt
   have HS:Hid (zs[k]? = some s):=hs
   clear hs
   have hb:b < w.heap.size:=zL w ⟨b,off+k * 8,none⟩ hr.1
   obtain ⟨h0,h1,h2,h3,h4,h5,h6,h7⟩:=hr
   obtain ⟨b0,b1,b2,b3,b4,b5,b6,b7⟩:=HB.out
   simp only [Nat.zero_add] at b0 b1 b2 b3 b4 b5 b6 b7
   have hlt':(k:Int) < (n:Int):=by omega
   cases hsame:QF8 r s
   ·have HF:Hid (QF8 r s=false):=hsame
    have HN:Hid (¬ r∈zs.take (k+1)):=by
     show ¬ r∈zs.take (k+1)
     rw [qP3]
     rintro ⟨j,hj,hjs⟩
     by_cases e:j=k
     ·subst e
      rw [HS.out] at hjs
      simp [QF8] at hsame
      exact hsame (Option.some.inj hjs).symm
     ·exact HM.out ((qP3 _ _ _).2 ⟨j,by omega,hjs⟩)
    clear hsame
    have hsame:QF8 r s=false:=HF.out
    go_wp2
    go_quiet (fail)
    go_wp2
    exact ⟨⟨k+1,by omega,by go_num,HN.out,_,rfl⟩,by simp [intOf];omega⟩
   ·have HI:Hid (r∈zs):=by
     show r∈zs
     simp [QF8] at hsame
     subst hsame
     exact List.mem_of_getElem? HS.out
    go_wp2
    go_quiet (fail)
    go_wp2
    go_ret
    exact ⟨⟨_,rfl,Or.inl ⟨by omega,HI.out⟩⟩,by first | exact bdN (zN) _ | exact bdN (bdN (zN) _) _⟩
  ·have hkn:k=n:=by omega
   subst hkn
   have HN:Hid (¬ r∈zs):=by
    have:=HM.out
    rw [List.take_of_length_le (by rw [hz.out];exact Nat.le_refl _)] at this
    exact this
   go_wp2
   go_ret
   exact ⟨⟨_,rfl,Or.inr ⟨rfl,HN.out⟩⟩,bdN (by go_grown) _⟩
theorem QG9 (a:Option Addr) (n cap:Nat) (zs:List qA0) (r:qA0) (w:World) (hn:n≤1048576) (h:qB5 w a n zs) :
  Calls Tryz.prog 181 #[.slice a n cap,.agg #[.int .i64 r.k,.int .i64 r.ho,.int .i64 r.hn,.int .i64 r.w,.int .i64 r.oo,.int .i64 r.on,.int .i64 r.to,.int .i64 r.tn]] w fun e w'=>e = .returned (.bool (decide (r∈zs)))∧Below w.heap.size w w':=by
 have H:Hid (qB5 (w.alloc (.cells #[.int .i64 r.k,.int .i64 r.ho,.int .i64 r.hn,.int .i64 r.w,.int .i64 r.oo,.int .i64 r.on,.int .i64 r.to,.int .i64 r.tn] 125)) a n zs):=h.below (zN)
 clear h
 have HB:Hid (qC2 (w.alloc (.cells #[.int .i64 r.k,.int .i64 r.ho,.int .i64 r.hn,.int .i64 r.w,.int .i64 r.oo,.int .i64 r.on,.int .i64 r.to,.int .i64 r.tn] 125)) w.heap.size 0 r):=qC2.new w r _
 obtain ⟨b0,b1,b2,b3,b4,b5,b6,b7⟩:=HB.out
 simp only [Nat.zero_add] at b0 b1 b2 b3 b4 b5 b6 b7
 go_enter Tryz.func181,Tryz.ntmps181
 go_wp2_with fail
 refine (slIndex_c a n cap zs r _ hn H.out).mono ?_
 rintro e w1 ⟨⟨i,rfl,hi⟩,hb1⟩
 have HX:Hid (decide (0≤i)=decide (r∈zs)):=by
  show decide (0≤i)=decide (r∈zs)
  rcases hi with ⟨h1,h2⟩ | ⟨rfl,h2⟩
  ·simp [h1,h2]
  ·simp [h2]
 clear hi b0 b1 b2 b3 b4 b5 b6 b7
 go_wp2
 go_ret
 exact ⟨by rw [HX.out];rfl,qC1 hb1⟩
end

section
open Go.ChangeShapes Go.WideShapes Go.RowKit
def qN8 (g:Nat) (w:World):Prop:=∃ a:Addr,w.cell? ⟨g,0,none⟩=some (.iface 338 (.pointer (some a)))
theorem qN8.below {g:Nat} {w w':World} (h:qN8 g w) (hb:Below w.heap.size w w'):qN8 g w':=by
 obtain ⟨a,h⟩:=h
 exact ⟨a,(hb.cell (p:=⟨g,0,none⟩) (zL w ⟨g,0,none⟩ h)).trans h⟩
theorem Tryz.cellsES:Tryz.prog.cellsOf 361=1:=by kernel_rfl
theorem Tryz.cellsStr:Tryz.prog.cellsOf 9=1:=by kernel_rfl
theorem starES : "*" ++ "errors.errorString" = "*errors.errorString" := by decide
theorem Tryz.rowES (u:TypeId) (h:Tryz.prog.typeName? 3 u=some "*errors.errorString"):u=338 :=
 typeName_ptr_named (nm := "errors.errorString") (by rw [starES];kernel_rfl) (by kernel_rfl) (by decide) u (by rw [starES];exact h)
theorem vars_one {H:Type} {enc:TypeId × Value→H} {P:Program} {w:World} {sp:Nat→Bool} {n:String} {gs:List (DataW H)} {ps:List MemPlace} (h:DataW.TrodVars enc P w sp [n] gs ps):∃ g,gs=[g]:=by
 rcases gs with _ | ⟨g,_ | ⟨g2,r⟩⟩
 ·exact h.elim
 ·exact ⟨g,rfl⟩
 ·obtain ⟨_,_,_,_,_,_,_,_,_,_,hs,_⟩:=h
  exact hs.elim
end

end Go.Proofs.YtdppdbihhlipeaaGreatDoor
