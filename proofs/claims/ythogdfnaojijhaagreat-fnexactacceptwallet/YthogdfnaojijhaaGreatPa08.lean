/- Contracts. -/
import Derived.Test.YthogdfnaojijhaaGreatPa07
namespace Go.Proofs.YthogdfnaojijhaaGreat
set_option maxRecDepth 100000
set_option maxHeartbeats 8000000
open Go.RowKit
set_option linter.unusedVariables false
set_option linter.unusedSimpArgs false

theorem QE4 (v:Int) (w:World):Calls Tryz.prog 152 #[.int .i64 v] w fun e w'=>e = .returned (.bool (inR v 1 2))∧w=w':=by
 unfold inR
 cases h0:decide (1≤v)
 ·go_enter Tryz.func152,Tryz.ntmps152
  go_wp2
  go_ret
  exact ⟨by simp,rfl⟩
 ·cases h1:decide (v≤2)
  all_goals
   go_enter Tryz.func152,Tryz.ntmps152
   go_wp2
   go_ret
   exact ⟨by simp,rfl⟩
theorem l6F_c (v:Int) (w:World):Calls Tryz.prog 106 #[.int .i64 v] w fun e w'=>e = .returned (.bool (inR v 1 2))∧w=w':=by
 go_enter Tryz.func106,Tryz.ntmps106
 go_wp2_with (go_at_call 65;refine (qL2 _ _ _ _).mono ?_;rintro e w' ⟨rfl,rfl⟩)
 go_ret
 exact ⟨rfl,rfl⟩
def qL4 (fn:Nat) (f c v:Int) (w:World):Prop:=Calls Tryz.prog fn #[.int .i64 f] w fun e w'=>e = .returned (.agg #[.int .i64 c,.int .i64 v])∧Below w.heap.size w w'
def qL9 (f:Int):Int:=if inR f 1 2=true then 0 else 3
def qP6 (k f:Int):Int:=if inR f 1 2=true then k * f+1 else 0
theorem qW3 (f:Int) (w:World):qL4 80 f (qL9 f) (qP6 2 f) w:=by
 unfold qL4 qL9 qP6
 cases h:inR f 1 2
 ·have H:Hid (inR f 1 2=false):=h
  clear h
  simp only [Bool.false_eq_true,if_false]
  go_enter Tryz.func80,Tryz.ntmps80
  go_wp2_with (first | (go_at_call 152;refine (QE4 _ _).mono ?_;rintro e w' ⟨rfl,rfl⟩;rw [H.out]) | go_in)
  go_returns
  exact ⟨rfl,by go_grown⟩
 ·have H:Hid (inR f 1 2=true):=h
  obtain ⟨h1,h2⟩:=(qD2 f 1 2).1 h
  clear h
  simp only [if_true]
  go_enter Tryz.func80,Tryz.ntmps80
  go_wp2_with (first | (go_at_call 152;refine (QE4 _ _).mono ?_;rintro e w' ⟨rfl,rfl⟩;rw [H.out]) | go_in)
  go_returns
  exact ⟨rfl,by go_grown⟩
theorem qP0 (f:Int) (w:World):qL4 117 f (qL9 f) (qP6 3 f) w:=by
 unfold qL4 qL9 qP6
 cases h:inR f 1 2
 ·have H:Hid (inR f 1 2=false):=h
  clear h
  simp only [Bool.false_eq_true,if_false]
  go_enter Tryz.func117,Tryz.ntmps117
  go_wp2_with (first | (go_at_call 152;refine (QE4 _ _).mono ?_;rintro e w' ⟨rfl,rfl⟩;rw [H.out]) | go_in)
  go_returns
  exact ⟨rfl,by go_grown⟩
 ·have H:Hid (inR f 1 2=true):=h
  obtain ⟨h1,h2⟩:=(qD2 f 1 2).1 h
  clear h
  simp only [if_true]
  go_enter Tryz.func117,Tryz.ntmps117
  go_wp2_with (first | (go_at_call 152;refine (QE4 _ _).mono ?_;rintro e w' ⟨rfl,rfl⟩;rw [H.out]) | go_in)
  go_returns
  exact ⟨rfl,by go_grown⟩

section
abbrev Up (ys:List Int):Prop:=ys.Pairwise (fun a b=>a < b)
def qP5 (ys:List Int):Bool:=decide (Up ys)
def qH7 (f:Int) (ys:List Int):Bool:=ys.all (fun y=>inR y 1 (3 * f+1))
theorem QL0 {ys:List Int} {n:Nat} (hn:ys.length=n) (h:∀ k a b,1≤k→k < n→ys[k - 1]? = some a→ys[k]? = some b→a < b):Up ys:=by
 subst hn
 have step:∀ d i (hi:i+d+1 < ys.length) (hi0:i < ys.length),ys[i] < ys[i+d+1]:=by
  intro d
  induction d with
  | zero=>intro i hi hi0;exact h (i+1) _ _ (by omega) hi (by rw [Nat.add_sub_cancel];exact List.getElem?_eq_getElem hi0) (List.getElem?_eq_getElem hi)
  | succ d ih =>
   intro i hi hi0
   have h1:=ih i (by omega) hi0
   have h2:ys[i+d+1]'(by omega) < ys[i+(d+1)+1]:=h (i+d+2) _ _ (by omega) (by omega) (by rw [show i+d+2 - 1=i+d+1 by omega];exact List.getElem?_eq_getElem (by omega)) (List.getElem?_eq_getElem (by omega))
   omega
 refine List.pairwise_iff_getElem.2 (fun i j hi hj hij=>?_)
 obtain ⟨d,rfl⟩:∃ d,j=i+d+1:=⟨j - i - 1,by omega⟩
 exact step d i hj hi
theorem QU7 {ys:List Int} {k:Nat} {a b:Int} (ha:ys[k - 1]? = some a) (hb:ys[k]? = some b) (hk:1≤k) (h:¬ a < b):¬ Up ys:=by
 intro hu
 have hl:k < ys.length:=by
  by_cases q:k < ys.length
  ·exact q
  ·rw [List.getElem?_eq_none (by omega)] at hb;cases hb
 have:=List.pairwise_iff_getElem.1 hu (k - 1) k (by omega) hl (by omega)
 rw [List.getElem?_eq_getElem (by omega)] at ha
 rw [List.getElem?_eq_getElem hl] at hb
 have e1:=Option.some.inj ha
 have e2:=Option.some.inj hb
 rw [e1,e2] at this
 exact h this
def cmpS (x y:Int):Int:=if x < y then -1 else if y < x then 1 else 0
theorem compareS_c (x y:Int) (w:World):Calls Tryz.prog 151 #[.int .i64 x,.int .i64 y] w fun e w'=>e = .returned (.int .i64 (cmpS x y))∧w=w':=by
 unfold cmpS
 by_cases h1:x < y
 ·go_enter Tryz.func151,Tryz.ntmps151
  go_wp2
  go_ret
  exact ⟨by simp [h1],rfl⟩
 ·by_cases h2:y < x
  ·go_enter Tryz.func151,Tryz.ntmps151
   go_wp2
   go_ret
   exact ⟨by simp [h1,h2],rfl⟩
  ·go_enter Tryz.func151,Tryz.ntmps151
   go_wp2
   go_ret
   exact ⟨by simp [h1,h2],rfl⟩
theorem qP2 (x y:Int) (w:World):Calls Tryz.prog 122 #[.int .i64 x,.int .i64 y] w fun e w'=>e = .returned (.int .i64 (cmpS x y))∧w=w':=by
 go_enter Tryz.func122,Tryz.ntmps122
 go_wp2_with (first | (go_at_call 151;refine (compareS_c _ _ _).mono ?_;rintro e w' ⟨rfl,rfl⟩))
 go_ret
 exact ⟨rfl,rfl⟩
theorem fldN0 (c v:Int) (w:World):(Instr.field 139 (.agg #[.int .i64 c,.int .i64 v]) 0).run Tryz.prog w = .ok (.int .i64 c) w:=by kernel_rfl
theorem fldN1 (c v:Int) (w:World):(Instr.field 139 (.agg #[.int .i64 c,.int .i64 v]) 1).run Tryz.prog w = .ok (.int .i64 v) w:=by kernel_rfl
attribute [local go_sem] fldN0 fldN1
theorem qU2 (i c v:Int) (w:World):Calls Tryz.prog 118 #[.int .i64 i,.agg #[.int .i64 c,.int .i64 v]] w fun e w'=>e = .returned (.bool (decide (c=0)&&inR i 1 v))∧Below w.heap.size w w':=by
 have hB:Below w.heap.size w (w.alloc (.cells #[.int .i64 c,.int .i64 v] 139)):=zN
 unfold inR
 by_cases q0:c=0
 ·have b0:(c==0)=true:=by simp [q0]
  by_cases q1:1≤i
  ·by_cases q2:i≤v
   ·have e:(decide (c=0)&&(decide (1≤i)&&decide (i≤v)))=true:=by simp [q0,q1,q2]
    rw [e]
    clear e q0
    go_enter Tryz.func118,Tryz.ntmps118
    go_wp2
    go_ret
    exact ⟨rfl,hB⟩
   ·have e:(decide (c=0)&&(decide (1≤i)&&decide (i≤v)))=false:=by simp [q0,q1,q2]
    rw [e]
    clear e q0
    go_enter Tryz.func118,Tryz.ntmps118
    go_wp2
    go_ret
    exact ⟨rfl,hB⟩
  ·have e:(decide (c=0)&&(decide (1≤i)&&decide (i≤v)))=false:=by simp [q1]
   rw [e]
   clear e q0
   go_enter Tryz.func118,Tryz.ntmps118
   go_wp2
   go_ret
   exact ⟨rfl,hB⟩
 ·have b0:(c==0)=false:=by simp [q0]
  have e:(decide (c=0)&&(decide (1≤i)&&decide (i≤v)))=false:=by simp [q0]
  rw [e]
  clear e q0
  go_enter Tryz.func118,Tryz.ntmps118
  go_wp2
  go_ret
  exact ⟨rfl,hB⟩
abbrev KC (W W':World):Prop:=(∀ b o,b < W.heap.size→W'.cell? ⟨b,o,none⟩=W.cell? ⟨b,o,none⟩)∧Below W.heap.size W W'
theorem rise_c (a:Option Addr) (n cap:Nat) (ys:List Int) (w:World) (hn:n≤1048576) (h:qC1 w a n ys) :
  Calls Tryz.prog 131 #[.slice a n cap] w fun e w'=>e = .returned (.bool (qP5 ys))∧Below w.heap.size w w':=by
 have H:Hid (qC1 w a n ys):=h
 have HZ:Hid (ys.length=n):=h.1
 have hn':(n:Int)≤1048576:=by omega
 clear h
 go_enter Tryz.func131,Tryz.ntmps131
 go_wp2
 go_loopw [3] (fun i wr=>∃ m:Nat,1≤m∧(m≤n∨m=1)∧i = .int .i64 (m:Int)∧(∀ j x y,1≤j→j < m→ys[j - 1]? = some x→ys[j]? = some y→x < y)∧Below w.heap.size w wr) (fun i _=>n+1 - (intOf i).toNat)
 case atStart=>exact ⟨1,Nat.le_refl _,.inr rfl,rfl,fun j x y h1 h2=>by omega,Below.refl _ _⟩
 case round =>
  obtain ⟨m,hm1,hmn,rfl,hr,hnx⟩:=hrel
  have HR:Hid (∀ j x y,1≤j→j < m→ys[j - 1]? = some x→ys[j]? = some y→x < y):=hr
  clear hr
  by_cases hlt:m < n
  ·obtain ⟨k,hk⟩:∃ k,k+1=m:=⟨m - 1,by omega⟩
   obtain ⟨b,off,x,rfl,hx,hxa,hbl⟩:=H.out.at (show k < n by omega)
   obtain ⟨b',off',y,e',hy,hya,_⟩:=H.out.at hlt
   cases e'
   have c0:=(hnx.cell (p:=⟨b,off+k,none⟩) hbl).trans hxa
   have c1:=(hnx.cell (p:=⟨b,off+m,none⟩) hbl).trans hya
   have hbw:b < wr.heap.size:=Nat.lt_of_lt_of_le hbl hnx.size
   have hlt':(m:Int) < (n:Int):=by omega
   have hm0:(0:Int)≤(m:Int):=by omega
   have hk0:(0:Int)≤(k:Int):=by omega
   have hkn:(k:Int) < (n:Int):=by omega
   have hwr:IntKind.i64.wrap ((m:Int) - 1)=(k:Int):=by rw [IntKind.wrap_i64];omega
   have HX:Hid (ys[m - 1]? = some x∧ys[m]? = some y):=⟨by rw [show m - 1=k by omega];exact hx,hy⟩
   clear hx hy hxa hya hk hmn
   by_cases hxy:x < y
   ·have HC:Hid (cmpS x y = -1):=by show cmpS x y = -1;unfold cmpS;rw [if_pos hxy]
    have HN:Hid (∀ j x y,1≤j→j < m+1→ys[j - 1]? = some x→ys[j]? = some y→x < y):=fun j x' y' h1 h2 e1 e2=>by
     by_cases q:j=m
     ·subst q
      rw [HX.out.1] at e1
      rw [HX.out.2] at e2
      cases e1;cases e2;exact hxy
     ·exact HR.out j x' y' h1 (by omega) e1 e2
    clear hxy
    go_wp2
    go_region_held3 (fun w'=>KC wr w') (first | exact hS | exact qB6 _ | assumption)
     (first | (go_at_call 122;refine (qP2 x y _).mono ?_;rintro e w' ⟨rfl,rfl⟩;rw [HC.out]))
    go_wp2
    exact ⟨⟨m+1,by omega,.inl (by omega),by go_num,HN.out,hnx.drew⟩,by simp [intOf];omega⟩
   ·have HC:Hid (∃ d,cmpS x y=d∧0≤d):=by
     refine ⟨_,rfl,?_⟩
     unfold cmpS
     rw [if_neg hxy]
     split <;> omega
    obtain ⟨d,hd,hd0⟩:=HC.out
    have HD:Hid (cmpS x y=d):=hd
    have HF:Hid (qP5 ys=false):=by
     show qP5 ys=false
     unfold qP5
     exact decide_eq_false (QU7 (k:=m) HX.out.1 HX.out.2 (by omega) hxy)
    clear hxy hd HC
    go_wp2
    go_region_held3 (fun w'=>KC wr w') (first | exact hS | exact qB6 _ | assumption)
     (first | (go_at_call 122;refine (qP2 x y _).mono ?_;rintro e w' ⟨rfl,rfl⟩;rw [HD.out]))
    go_wp2
    go_ret
    exact ⟨by rw [HF.out];rfl,hnx.drew⟩
  ·have hlt':¬ ((m:Int) < (n:Int)):=by omega
   have HF:Hid (qP5 ys=true):=by
    show qP5 ys=true
    unfold qP5
    exact decide_eq_true (QL0 HZ.out (fun j x y h1 h2 e1 e2=>HR.out j x y h1 (by omega) e1 e2))
   go_wp2
   go_ret
   exact ⟨by rw [HF.out];rfl,hnx⟩
end

end Go.Proofs.YthogdfnaojijhaaGreat
