/- Contracts. -/
import Derived.Test.YtlpgapdlepbgbaaGreatDoorPv05
import Derived.Test.YtlpgapdlepbgbaaGreatDoorPv04
import Derived.Test.YtlpgapdlepbgbaaGreatDoorPv03
namespace Go.Proofs.YtlpgapdlepbgbaaGreatDoor
set_option maxRecDepth 100000
set_option maxHeartbeats 8000000
open Go.RowKit
set_option linter.unusedVariables false
set_option linter.unusedSimpArgs false

def QE5 (r s:qA0):Bool:=decide (r=s)
theorem sameB_mk (a0 a1 a2 a3 a4 a5 a6 a7 b0 b1 b2 b3 b4 b5 b6 b7:Int):QE5 ⟨a0,a1,a2,a3,a4,a5,a6,a7⟩ ⟨b0,b1,b2,b3,b4,b5,b6,b7⟩=(a0 == b0 && (a1 == b1 && a2 == b2) && a3 == b3 && (a4 == b4 && a5 == b5) && (a6 == b6 && a7 == b7)):=by
 unfold QE5
 rw [Bool.eq_iff_iff]
 simp only [decide_eq_true_eq,qA0.mk.injEq,Bool.and_eq_true,beq_iff_eq]
 constructor
 ·rintro ⟨h0,h1,h2,h3,h4,h5,h6,h7⟩;exact ⟨⟨⟨⟨h0,h1,h2⟩,h3⟩,h4,h5⟩,h6,h7⟩
 ·rintro ⟨⟨⟨⟨h0,h1,h2⟩,h3⟩,h4,h5⟩,h6,h7⟩;exact ⟨h0,h1,h2,h3,h4,h5,h6,h7⟩
theorem rule_eql (r s:qA0) (w:World):(binOp .eql 127 (.agg #[.int .i64 r.k,.int .i64 r.ho,.int .i64 r.hn,.int .i64 r.w,.int .i64 r.oo,.int .i64 r.on,.int .i64 r.to,.int .i64 r.tn]) (.agg #[.int .i64 s.k,.int .i64 s.ho,.int .i64 s.hn,.int .i64 s.w,.int .i64 s.oo,.int .i64 s.on,.int .i64 s.to,.int .i64 s.tn])).run Tryz.prog w = .ok (.bool (QE5 r s)) w:=by
 obtain ⟨a0,a1,a2,a3,a4,a5,a6,a7⟩:=r
 obtain ⟨b0,b1,b2,b3,b4,b5,b6,b7⟩:=s
 simp only
 rw [sameB_mk]
 cases e0:(a0 == b0)
 ·simp [go_sem,e0]
 cases e1:(a1 == b1)
 ·simp [go_sem,e0,e1]
 cases e2:(a2 == b2)
 ·simp [go_sem,e0,e1,e2]
 cases e3:(a3 == b3)
 ·simp [go_sem,e0,e1,e2,e3]
 cases e4:(a4 == b4)
 ·simp [go_sem,e0,e1,e2,e3,e4]
 cases e5:(a5 == b5)
 ·simp [go_sem,e0,e1,e2,e3,e4,e5]
 cases e6:(a6 == b6)
 ·simp [go_sem,e0,e1,e2,e3,e4,e5,e6]
 cases e7:(a7 == b7)
 ·simp [go_sem,e0,e1,e2,e3,e4,e5,e6,e7]
 ·simp [go_sem,e0,e1,e2,e3,e4,e5,e6,e7]

section
attribute [local go_sem ↓] rule_eql
theorem slIndex_c (a:Option Addr) (n cap:Nat) (zs:List qA0) (r:qA0) (w:World) (hn:n≤1048576) (h:qB5 w a n zs) :
  Calls Tryz.prog 194 #[.slice a n cap,.agg #[.int .i64 r.k,.int .i64 r.ho,.int .i64 r.hn,.int .i64 r.w,.int .i64 r.oo,.int .i64 r.on,.int .i64 r.to,.int .i64 r.tn]] w fun e w'=>(∃ i:Int,e = .returned (.int .i64 i)∧((0≤i∧r ∈ zs) ∨ (i = -1∧¬ r ∈ zs)))∧Below w.heap.size w w':=by
 have H:Hid (qB5 w a n zs):=h
 have hz:Hid (zs.length=n):=h.1
 clear h
 have hn':(n:Int)≤1048576:=by omega
 have HB:Hid (qC6 (w.alloc (.cells #[.int .i64 r.k,.int .i64 r.ho,.int .i64 r.hn,.int .i64 r.w,.int .i64 r.oo,.int .i64 r.on,.int .i64 r.to,.int .i64 r.tn] 127)) w.heap.size 0 r):=qC6.new w r _
 go_enter Tryz.func194,Tryz.ntmps194
 go_wp2
 go_loopw [8] (fun i wr=>∃ k:Nat,k≤n∧i = .int .i64 (k:Int)∧¬ r ∈ zs.take k∧∃ m,wr=(w.alloc (.cells #[.int .i64 r.k,.int .i64 r.ho,.int .i64 r.hn,.int .i64 r.w,.int .i64 r.oo,.int .i64 r.on,.int .i64 r.to,.int .i64 r.tn] 127)).drewN m) (fun i _=>n - (intOf i).toNat)
 case atStart=>exact ⟨0,Nat.zero_le _,rfl,by simp,0,rfl⟩
 case round =>
  obtain ⟨k,hk,rfl,hm,m,rfl⟩:=hrel
  have HM:Hid (¬ r ∈ zs.take k):=hm
  clear hm
  by_cases hlt:k < n
  ·obtain ⟨b,off,s,rfl,hs,hr⟩:=H.out.at hlt
   have HS:Hid (zs[k]? = some s):=hs
   clear hs
   have hb:b < w.heap.size:=zL w ⟨b,off+k * 8,none⟩ hr.1
   obtain ⟨h0,h1,h2,h3,h4,h5,h6,h7⟩:=hr
   obtain ⟨b0,b1,b2,b3,b4,b5,b6,b7⟩:=HB.out
   simp only [Nat.zero_add] at b0 b1 b2 b3 b4 b5 b6 b7
   have hlt':(k:Int) < (n:Int):=by omega
   cases hsame:QE5 r s
   ·have HF:Hid (QE5 r s=false):=hsame
    have HN:Hid (¬ r ∈ zs.take (k+1)):=by
     show ¬ r ∈ zs.take (k+1)
     rw [qO9]
     rintro ⟨j,hj,hjs⟩
     by_cases e:j=k
     ·subst e
      rw [HS.out] at hjs
      simp [QE5] at hsame
      exact hsame (Option.some.inj hjs).symm
     ·exact HM.out ((qO9 _ _ _).2 ⟨j,by omega,hjs⟩)
    clear hsame
    have hsame:QE5 r s=false:=HF.out
    go_wp2
    go_quiet (fail)
    go_wp2
    exact ⟨⟨k+1,by omega,by go_num,HN.out,_,rfl⟩,by simp [intOf];omega⟩
   ·have HI:Hid (r ∈ zs):=by
     show r ∈ zs
     simp [QE5] at hsame
     subst hsame
     exact List.mem_of_getElem? HS.out
    go_wp2
    go_quiet (fail)
    go_wp2
    go_ret
    exact ⟨⟨_,rfl,Or.inl ⟨by omega,HI.out⟩⟩,by first | exact bdN (zN) _ | exact bdN (bdN (zN) _) _⟩
  ·have hkn:k=n:=by omega
   subst hkn
   have HN:Hid (¬ r ∈ zs):=by
    have:=HM.out
    rw [List.take_of_length_le (by rw [hz.out];exact Nat.le_refl _)] at this
    exact this
   go_wp2
   go_ret
   exact ⟨⟨_,rfl,Or.inr ⟨rfl,HN.out⟩⟩,bdN (by go_grown) _⟩
theorem QF3 (a:Option Addr) (n cap:Nat) (zs:List qA0) (r:qA0) (w:World) (hn:n≤1048576) (h:qB5 w a n zs) :
  Calls Tryz.prog 171 #[.slice a n cap,.agg #[.int .i64 r.k,.int .i64 r.ho,.int .i64 r.hn,.int .i64 r.w,.int .i64 r.oo,.int .i64 r.on,.int .i64 r.to,.int .i64 r.tn]] w fun e w'=>e = .returned (.bool (decide (r ∈ zs)))∧Below w.heap.size w w':=by
 have H:Hid (qB5 (w.alloc (.cells #[.int .i64 r.k,.int .i64 r.ho,.int .i64 r.hn,.int .i64 r.w,.int .i64 r.oo,.int .i64 r.on,.int .i64 r.to,.int .i64 r.tn] 127)) a n zs):=h.below (zN)
 clear h
 have HB:Hid (qC6 (w.alloc (.cells #[.int .i64 r.k,.int .i64 r.ho,.int .i64 r.hn,.int .i64 r.w,.int .i64 r.oo,.int .i64 r.on,.int .i64 r.to,.int .i64 r.tn] 127)) w.heap.size 0 r):=qC6.new w r _
 obtain ⟨b0,b1,b2,b3,b4,b5,b6,b7⟩:=HB.out
 simp only [Nat.zero_add] at b0 b1 b2 b3 b4 b5 b6 b7
 go_enter Tryz.func171,Tryz.ntmps171
 go_wp2_with fail
 refine (slIndex_c a n cap zs r _ hn H.out).mono ?_
 rintro e w1 ⟨⟨i,rfl,hi⟩,hb1⟩
 have HX:Hid (decide (0≤i)=decide (r ∈ zs)):=by
  show decide (0≤i)=decide (r ∈ zs)
  rcases hi with ⟨h1,h2⟩ | ⟨rfl,h2⟩
  ·simp [h1,h2]
  ·simp [h2]
 clear hi b0 b1 b2 b3 b4 b5 b6 b7
 go_wp2
 go_ret
 exact ⟨by rw [HX.out];rfl,qD4 hb1⟩
end

section
def GrAt (w:World) (b o:Nat) (x:GrI):Prop:=w.cell? ⟨b,o,none⟩=some (.int .i64 x.1.1)∧w.cell? ⟨b,o+1,none⟩=some (.int .i64 x.1.2)∧w.cell? ⟨b,o+2,none⟩=some (.int .i64 x.2)
theorem GrAt.below {w w':World} {B b o:Nat} {x:GrI} (h:GrAt w b o x) (hb:Below B w w') (hB:b < B):GrAt w' b o x :=
 ⟨(hb.cell (p:=⟨b,o,none⟩) hB).trans h.1,(hb.cell (p:=⟨b,o+1,none⟩) hB).trans h.2.1,(hb.cell (p:=⟨b,o+2,none⟩) hB).trans h.2.2⟩
def QC0 (w:World) (a:Option Addr) (n:Nat) (gs:List GrI):Prop:=gs.length=n∧(0 < n → ∃ b off,a=some ⟨b,off,none⟩∧∀ k x,gs[k]? = some x → GrAt w b (off+k * 3) x)
theorem QC0.below {w w':World} {a:Option Addr} {n:Nat} {gs:List GrI} (h:QC0 w a n gs) (hb:Below w.heap.size w w'):QC0 w' a n gs:=by
 refine ⟨h.1,fun hn=>?_⟩
 obtain ⟨b,off,e,k⟩:=h.2 hn
 exact ⟨b,off,e,fun j x hx=>(k j x hx).below hb (zL w ⟨b,off+j * 3,none⟩ (k j x hx).1)⟩
theorem QC0.at {w:World} {a:Option Addr} {n:Nat} {gs:List GrI} (h:QC0 w a n gs) {k:Nat} (hk:k < n):∃ b off x,a=some ⟨b,off,none⟩∧gs[k]? = some x∧GrAt w b (off+k * 3) x∧b < w.heap.size:=by
 obtain ⟨b,off,e,q⟩:=h.2 (by omega)
 have hx:=List.getElem?_eq_getElem (l:=gs) (i:=k) (by rw [h.1];exact hk)
 exact ⟨b,off,_,e,hx,q k _ hx,zL w ⟨b,off+k * 3,none⟩ (q k _ hx).1⟩
theorem ofG_drop {gs:List GrI} {k:Nat} {x:GrI} (h:gs[k]? = some x) (r:RoI):ofG (gs.drop k) r=if x.1=r then x.2 else ofG (gs.drop (k+1)) r:=by
 have hk:k < gs.length:=by
  by_cases q:k < gs.length
  ·exact q
  ·rw [List.getElem?_eq_none (by omega)] at h;cases h
 have e:gs[k]=x:=by rw [List.getElem?_eq_getElem hk] at h;exact Option.some.inj h
 rw [List.drop_eq_getElem_cons hk,e]
 rfl
def eqRo (p q:RoI):Bool:=p.1 == q.1 && p.2 == q.2
theorem qT2 (p q:RoI):eqRo p q=true ↔ p=q:=by
 obtain ⟨a,b⟩:=p
 obtain ⟨c,d⟩:=q
 simp [eqRo]
theorem ro_eql (p q:RoI) (w:World):(binOp .eql 125 (.agg #[.int .i64 p.1,.int .i64 p.2]) (.agg #[.int .i64 q.1,.int .i64 q.2])).run Tryz.prog w = .ok (.bool (eqRo p q)) w:=by
 obtain ⟨a0,a1⟩:=p
 obtain ⟨b0,b1⟩:=q
 simp only [eqRo]
 cases e0:(a0 == b0)
 ·simp [go_sem,e0]
 cases e1:(a1 == b1)
 ·simp [go_sem,e0,e1]
 ·simp [go_sem,e0,e1]
attribute [local go_sem ↓] ro_eql
theorem QL6 (a:Option Addr) (n c:Nat) (gs:List GrI) (r:RoI) (w:World) (hg:QC0 w a n gs) (hn:n≤1048576) :
  Calls Tryz.prog 152 #[.slice a n c,.agg #[.int .i64 r.1,.int .i64 r.2]] w fun e w'=>e = .returned (.int .i64 (ofG gs r))∧Below w.heap.size w w':=by
 have W0:Hid (QC0 (w.alloc (.cells #[.int .i64 r.1,.int .i64 r.2] 125)) a n gs):=hg.below (zN)
 have R0:Hid ((w.alloc (.cells #[.int .i64 r.1,.int .i64 r.2] 125)).cell? ⟨w.heap.size,0,none⟩=some (.int .i64 r.1)∧(w.alloc (.cells #[.int .i64 r.1,.int .i64 r.2] 125)).cell? ⟨w.heap.size,1,none⟩=some (.int .i64 r.2)):=⟨by simp,by simp⟩
 clear hg
 have hn':(n:Int)≤1048576:=by omega
 go_enter Tryz.func152,Tryz.ntmps152
 go_wp2
 go_loopw [5] (fun i wr=>∃ k:Nat,k≤n∧i = .int .i64 (k:Int)∧ofG gs r=ofG (gs.drop k) r∧∃ m,wr=(w.alloc (.cells #[.int .i64 r.1,.int .i64 r.2] 125)).drewN m) (fun i _=>n - (intOf i).toNat)
 case atStart=>exact ⟨0,Nat.zero_le _,rfl,rfl,0,rfl⟩
 case round =>
  obtain ⟨k,hk,rfl,hof,m,rfl⟩:=hrel
  have HF:Hid (ofG gs r=ofG (gs.drop k) r):=hof
  clear hof
  by_cases hlt:k < n
  ·obtain ⟨b,off,x,e,hx,⟨c0,c1,c2⟩,hbl⟩:=W0.out.at hlt
   obtain ⟨r0,r1⟩:=R0.out
   subst e
   have HX:Hid (gs[k]? = some x):=hx
   clear hx
   have hlt':(k:Int) < (n:Int):=by omega
   cases he:eqRo x.1 r
   ·have HE:Hid (ofG gs r=ofG (gs.drop (k+1)) r):=by
     show ofG gs r=_
     rw [HF.out,ofG_drop HX.out,if_neg (fun q=>by rw [(qT2 _ _).2 q] at he;cases he)]
    go_wp2
    go_quiet (fail)
    go_wp2
    exact ⟨⟨k+1,by omega,by go_num,HE.out,_,rfl⟩,by simp [intOf];omega⟩
   ·have HE:Hid (ofG gs r=x.2):=by
     show ofG gs r=_
     rw [HF.out,ofG_drop HX.out,if_pos ((qT2 _ _).1 he)]
    go_wp2
    go_quiet (fail)
    go_wp2
    go_ret
    exact ⟨by rw [HE.out];rfl,bdN (zN) _⟩
  ·have hkn:k=n:=by omega
   subst hkn
   go_wp2
   go_ret
   have : ofG gs r=0:=by rw [HF.out,List.drop_eq_nil_of_le (by rw [W0.out.1];exact Nat.le_refl _)];rfl
   exact ⟨by rw [this];rfl,bdN (zN) _⟩
end

end Go.Proofs.YtlpgapdlepbgbaaGreatDoor
