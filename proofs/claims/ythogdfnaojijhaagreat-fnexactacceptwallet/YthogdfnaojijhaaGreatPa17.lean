/- Contracts. -/
import Derived.Test.YthogdfnaojijhaaGreatPa16
import Derived.Test.YthogdfnaojijhaaGreatPa13
import Derived.Test.YthogdfnaojijhaaGreatPa08
namespace Go.Proofs.YthogdfnaojijhaaGreat
set_option maxRecDepth 100000
set_option maxHeartbeats 8000000
open Go.RowKit
set_option linter.unusedVariables false
set_option linter.unusedSimpArgs false

theorem st_form {x:StI} (hk:inR x.k 1 4=true) (h:x.k < 3):qB8 x=if x.n=0 then (if inR x.e 1 9=false then 3 else if inR x.f 1 4=false then 3 else if inR x.s 1 255=false then 3 else 0) else 1:=by
 obtain ⟨k,e,f,s,n⟩:=x
 simp only at hk h ⊢
 have hf:QM9 k=true:=by rw [qD2] at hk;have : k=1∨k=2:=(by omega);rcases this with rfl | rfl <;> rfl
 have ho:ownB ⟨k,e,f,s,n⟩=decide (n=0):=by
  unfold ownB ownI
  simp only [hf,if_true,qE3]
  simp [eq_comm]
 unfold qB8 rngB
 simp only [hk,ho,hf]
 by_cases h0:n=0
 ·subst h0
  cases inR e 1 9 <;> cases inR f 1 4 <;> cases inR s 1 255 <;> simp
 ·simp [h0]
theorem st_next {x:StI} (hk:inR x.k 1 4=true) (h:3≤x.k):qB8 x=if x.f=0∧x.s=0 then (if inR x.e 1 9=false then 3 else if inR x.n 0 7=false then 3 else 0) else 1:=by
 obtain ⟨k,e,f,s,n⟩:=x
 simp only at hk h ⊢
 have hf:QM9 k=false:=by rw [qD2] at hk;have : k=3∨k=4:=(by omega);rcases this with rfl | rfl <;> rfl
 have ho:ownB ⟨k,e,f,s,n⟩=decide (f=0∧s=0):=by
  unfold ownB ownI
  simp only [hf,qE3]
  simp
 unfold qB8 rngB
 simp only [hk,ho,hf]
 by_cases h0:f=0∧s=0
 ·obtain ⟨rfl,rfl⟩:=h0
  cases inR e 1 9 <;> cases inR n 0 7 <;> simp
 ·simp [h0]
theorem in07:inR 0 0 7=true:=rfl
theorem qU0 (b o:Nat) (x:StI) (w:World) (h:qX1 w b o x):Calls Tryz.prog 26 #[.pointer (some ⟨b,o,none⟩)] w fun e w'=>e = .returned (.int .i64 (qB8 x))∧w=w':=by
 obtain ⟨x0,x1,x2,x3,x4⟩:=h
 cases hk:inR x.k 1 4
 ·have hC:qB8 x=1:=by unfold qB8;rw [if_pos hk]
  rw [hC]
  clear hC
  go_enter Tryz.func26,Tryz.ntmps26
  go_wp2_with (first | (go_at_call 65;refine (qL2 _ _ _ _).mono ?_;rintro e w' ⟨rfl,rfl⟩;rw [hk]))
  go_ret
  exact ⟨rfl,rfl⟩
 ·by_cases h3:3≤x.k
  ·rw [st_next hk h3]
   by_cases f0:x.f=0
   ·by_cases s0:x.s=0
    ·rw [if_pos ⟨f0,s0⟩]
     rw [f0] at x2
     rw [s0] at x3
     clear f0 s0
     cases he:inR x.e 1 9
     ·go_enter Tryz.func26,Tryz.ntmps26
      go_wp2_with (first | (go_at_call 65;refine (qL2 _ _ _ _).mono ?_;rintro e w' ⟨rfl,rfl⟩;rw [hk]) | (go_at_call 66;refine (qL7 _ _).mono ?_;rintro e w' ⟨rfl,rfl⟩;rw [he]))
      go_ret
      exact ⟨rfl,rfl⟩
     ·cases hn:inR x.n 0 7
      all_goals
       go_enter Tryz.func26,Tryz.ntmps26
       go_wp2_with (first | (go_at_call 65;refine (qL2 _ _ _ _).mono ?_;rintro e w' ⟨rfl,rfl⟩;rw [hk]) | (go_at_call 66;refine (qL7 _ _).mono ?_;rintro e w' ⟨rfl,rfl⟩;rw [he]) | (go_at_call 65;refine (qL2 _ _ _ _).mono ?_;rintro e w' ⟨rfl,rfl⟩;rw [hn]))
       go_ret
       exact ⟨rfl,rfl⟩
    ·rw [if_neg (fun q=>s0 q.2)]
     rw [f0] at x2
     have sb:(x.s != 0)=true:=by simpa using s0
     clear f0 s0
     go_enter Tryz.func26,Tryz.ntmps26
     go_wp2_with (first | (go_at_call 65;refine (qL2 _ _ _ _).mono ?_;rintro e w' ⟨rfl,rfl⟩;rw [hk]))
     go_ret
     exact ⟨rfl,rfl⟩
   ·rw [if_neg (fun q=>f0 q.1)]
    have fb:(x.f != 0)=true:=by simpa using f0
    clear f0
    go_enter Tryz.func26,Tryz.ntmps26
    go_wp2_with (first | (go_at_call 65;refine (qL2 _ _ _ _).mono ?_;rintro e w' ⟨rfl,rfl⟩;rw [hk]))
    go_ret
    exact ⟨rfl,rfl⟩
  ·have h3':x.k < 3:=by omega
   rw [st_form hk h3']
   clear h3
   by_cases n0:x.n=0
   ·rw [if_pos n0]
    rw [n0] at x4
    clear n0
    have hn:=in07
    cases he:inR x.e 1 9
    ·go_enter Tryz.func26,Tryz.ntmps26
     go_wp2_with (first | (go_at_call 65;refine (qL2 _ _ _ _).mono ?_;rintro e w' ⟨rfl,rfl⟩;rw [hk]) | (go_at_call 66;refine (qL7 _ _).mono ?_;rintro e w' ⟨rfl,rfl⟩;rw [he]))
     go_ret
     exact ⟨rfl,rfl⟩
    ·cases hf:inR x.f 1 4
     ·go_enter Tryz.func26,Tryz.ntmps26
      go_wp2_with (first | (go_at_call 65;refine (qL2 _ _ _ _).mono ?_;rintro e w' ⟨rfl,rfl⟩;rw [hk]) | (go_at_call 66;refine (qL7 _ _).mono ?_;rintro e w' ⟨rfl,rfl⟩;rw [he]) | (go_at_call 67;refine (sForm_c _ _).mono ?_;rintro e w' ⟨rfl,rfl⟩;rw [hf]))
      go_ret
      exact ⟨rfl,rfl⟩
     ·cases hs:inR x.s 1 255
      all_goals
       go_enter Tryz.func26,Tryz.ntmps26
       go_wp2_with (first | (go_at_call 65;refine (qL2 _ _ _ _).mono ?_;rintro e w' ⟨rfl,rfl⟩;rw [hk]) | (go_at_call 66;refine (qL7 _ _).mono ?_;rintro e w' ⟨rfl,rfl⟩;rw [he]) | (go_at_call 67;refine (sForm_c _ _).mono ?_;rintro e w' ⟨rfl,rfl⟩;rw [hf]) | (go_at_call 65;refine (qL2 _ _ _ _).mono ?_;rintro e w' ⟨rfl,rfl⟩;rw [hs]) | (go_at_call 65;refine (qL2 _ _ _ _).mono ?_;rintro e w' ⟨rfl,rfl⟩;rw [hn]))
       go_ret
       exact ⟨rfl,rfl⟩
   ·rw [if_neg n0]
    have nb:(x.n != 0)=true:=by simpa using n0
    clear n0
    go_enter Tryz.func26,Tryz.ntmps26
    go_wp2_with (first | (go_at_call 65;refine (qL2 _ _ _ _).mono ?_;rintro e w' ⟨rfl,rfl⟩;rw [hk]))
    go_ret
    exact ⟨rfl,rfl⟩

abbrev ShI.st (x:ShI):StI:=⟨x.k,x.e,x.f,x.s,x.n⟩
/-- The share of one. -/
abbrev QY6 (r:Int) (x:StI):ShI:=⟨r,x.k,x.e,x.f,x.s,x.n⟩
theorem sh_eq {z:ShI} {r:Int} {x:StI}:z=QY6 r x↔z.st=x∧z.r=r:=by
 obtain ⟨a,b,c,d,e,f⟩:=z
 obtain ⟨k,e',f',s,n⟩:=x
 simp only [ShI.mk.injEq,StI.mk.injEq]
 constructor
 ·rintro ⟨h0,h1,h2,h3,h4,h5⟩;exact ⟨⟨h1,h2,h3,h4,h5⟩,h0⟩
 ·rintro ⟨⟨h1,h2,h3,h4,h5⟩,h0⟩;exact ⟨h0,h1,h2,h3,h4,h5⟩
def qQ2 (x y:ShI):Bool:=decide (x=y)
def qL0 (zs:List ShI) (x:ShI):Bool:=zs.any (fun y=>qQ2 y x)
theorem qN7 {zs:List ShI} {x:ShI}:qL0 zs x=true↔x∈zs:=by
 unfold qL0 qQ2
 rw [List.any_eq_true]
 constructor
 ·rintro ⟨y,hy,h⟩
  have : y=x:=of_decide_eq_true h
  subst this;exact hy
 ·intro h
  exact ⟨x,h,decide_eq_true rfl⟩
theorem qJ0 {zs:List ShI} {x:ShI} {k:Nat}:x∈zs.take k↔∃ j,j < k∧zs[j]? = some x:=by
 rw [List.mem_take_iff_getElem]
 constructor
 ·rintro ⟨j,hj,e⟩
  exact ⟨j,by omega,by rw [List.getElem?_eq_getElem (by omega),e]⟩
 ·rintro ⟨j,hj,e⟩
  have hl:j < zs.length:=by
   by_cases q:j < zs.length
   ·exact q
   ·rw [List.getElem?_eq_none (by omega)] at e;cases e
  rw [List.getElem?_eq_getElem hl] at e
  exact ⟨j,by omega,Option.some.inj e⟩
def QP7 (f:Int) (pre:List ShI) (x:ShI):Int:=if inR x.r 1 (3 * f+1)=true then (if qB8 x.st=0 then (if qL0 pre x=true then 6 else 0) else qB8 x.st) else 3
def qP3 (f:Int) (zs:List ShI):Nat→Int
 | 0=>0
 | k+1=>if qP3 f zs k=0 then (match zs[k]? with
  | none=>0
  | some x=>QP7 f (zs.take k) x) else qP3 f zs k
def qB9 (f:Int) (zs:List ShI):Int:=if inR f 1 2=true then (if 120 < zs.length then 2 else qP3 f zs zs.length) else 3
theorem qI8 (f:Int) (zs:List ShI) (k m:Nat) (d:Int) (hd:d≠0) (h:qP3 f zs k=d) (hm:k≤m):qP3 f zs m=d:=by
  induction m with
  | zero => obtain rfl:k=0:=by omega
            exact h
  | succ m ih =>
    by_cases e:k=m+1
    · subst e;exact h
    · have:=ih (by omega)
      rw [qP3,this,if_neg hd]
theorem qY5 {f:Int} {zs:List ShI} {k:Nat} {x:ShI} (hx:zs[k]? = some x) (h0:qP3 f zs k=0):qP3 f zs (k+1)=QP7 f (zs.take k) x:=by
 rw [qP3,h0,if_pos rfl,hx]
theorem sh_ok {f:Int} {zs:List ShI} (h:qB9 f zs=0):inR f 1 2=true∧zs.length≤120∧∀ x∈zs,inR x.r 1 (3 * f+1)=true∧qB8 x.st=0:=by
 unfold qB9 at h
 by_cases hf:inR f 1 2=true
 ·rw [if_pos hf] at h
  by_cases hl:120 < zs.length
  ·rw [if_pos hl] at h;omega
  ·rw [if_neg hl] at h
   refine ⟨hf,by omega,fun x hx=>?_⟩
   obtain ⟨k,hk,e⟩:=List.mem_iff_getElem.1 hx
   have hc:zs[k]? = some x:=by rw [List.getElem?_eq_getElem hk,e]
   have h0:qP3 f zs k=0:=by
    by_cases q:qP3 f zs k=0
    ·exact q
    ·have:=qI8 f zs k zs.length _ q rfl (by omega);rw [this] at h;exact absurd h q
   have h1:qP3 f zs (k+1)=0:=by
    by_cases q:qP3 f zs (k+1)=0
    ·exact q
    ·have:=qI8 f zs (k+1) zs.length _ q rfl (by omega);rw [this] at h;exact absurd h q
   rw [qY5 hc h0] at h1
   unfold QP7 at h1
   by_cases q:inR x.r 1 (3 * f+1)=true
   ·rw [if_pos q] at h1
    by_cases q2:qB8 x.st=0
    ·exact ⟨q,q2⟩
    ·rw [if_neg q2] at h1;exact absurd h1 q2
   ·rw [if_neg q] at h1;omega
 ·rw [if_neg hf] at h;omega
theorem up_nodup {xs:List Int} (h:Up xs):xs.Nodup:=List.Pairwise.imp (fun {a b} q=>by omega) h
def qG8 (zs:List ShI) (x:StI) (ys:List Int):Bool:=ys.all (fun y=>qL0 zs (QY6 y x))
def qG9 (f:Int) (ys:List Int):Int:=if qP5 ys=true then (if qH7 f ys=true then (if (ys.length:Int) < 2 * f+1 then 7 else 0) else 3) else 1
def QD1 (f:Int) (zs:List ShI) (x:StI) (ys:List Int):Int:=if qB9 f zs=0 then (if qB8 x=0 then (if qG9 f ys=0 then (if qG8 zs x ys=true then 0 else 7) else qG9 f ys) else qB8 x) else qB9 f zs

section
theorem sameSh_mk (a0 a1 a2 a3 a4 a5 b0 b1 b2 b3 b4 b5:Int):qQ2 ⟨a0,a1,a2,a3,a4,a5⟩ ⟨b0,b1,b2,b3,b4,b5⟩=(a0==b0&&a1==b1&&a2==b2&&a3==b3&&a4==b4&&a5==b5):=by
 unfold qQ2
 rw [Bool.eq_iff_iff]
 simp only [decide_eq_true_eq,ShI.mk.injEq,Bool.and_eq_true,beq_iff_eq]
 constructor
 ·rintro ⟨h0,h1,h2,h3,h4,h5⟩;exact ⟨⟨⟨⟨⟨h0,h1⟩,h2⟩,h3⟩,h4⟩,h5⟩
 ·rintro ⟨⟨⟨⟨⟨h0,h1⟩,h2⟩,h3⟩,h4⟩,h5⟩;exact ⟨h0,h1,h2,h3,h4,h5⟩
theorem sh_eql (x y:ShI) (w:World):(binOp .eql 77 (.agg #[.int .i64 x.r,.int .i64 x.k,.int .i64 x.e,.int .i64 x.f,.int .i64 x.s,.int .i64 x.n]) (.agg #[.int .i64 y.r,.int .i64 y.k,.int .i64 y.e,.int .i64 y.f,.int .i64 y.s,.int .i64 y.n])).run Tryz.prog w = .ok (.bool (qQ2 x y)) w:=by
 obtain ⟨a0,a1,a2,a3,a4,a5⟩:=x
 obtain ⟨b0,b1,b2,b3,b4,b5⟩:=y
 simp only
 rw [sameSh_mk]
 cases e0:(a0==b0)
 ·simp [go_sem,e0]
 cases e1:(a1==b1)
 ·simp [go_sem,e0,e1]
 cases e2:(a2==b2)
 ·simp [go_sem,e0,e1,e2]
 cases e3:(a3==b3)
 ·simp [go_sem,e0,e1,e2,e3]
 cases e4:(a4==b4)
 ·simp [go_sem,e0,e1,e2,e3,e4]
 cases e5:(a5==b5)
 ·simp [go_sem,e0,e1,e2,e3,e4,e5]
 ·simp [go_sem,e0,e1,e2,e3,e4,e5]
attribute [local go_sem ↓] sh_eql
theorem QC1.new (w:World) (x:ShI) (t:TypeId):QC1 (w.alloc (.cells #[.int .i64 x.r,.int .i64 x.k,.int .i64 x.e,.int .i64 x.f,.int .i64 x.s,.int .i64 x.n] t)) w.heap.size 0 x:=by
 refine ⟨?_,?_,?_,?_,?_,?_⟩ <;> simp
theorem QC1.stat {w:World} {b o:Nat} {x:ShI} (h:QC1 w b o x):qX1 w b (o+1) x.st:=⟨h.2.1,h.2.2.1,h.2.2.2.1,h.2.2.2.2.1,h.2.2.2.2.2⟩
theorem qD9.take {w:World} {a:Option Addr} {n:Nat} {zs:List ShI} (h:qD9 w a n zs) {k:Nat} (hk:k≤n):qD9 w a k (zs.take k):=by
 have hz:=h.1
 refine ⟨by simp;omega,fun hp=>?_⟩
 obtain ⟨b,off,e,q⟩:=h.2 (by omega)
 refine ⟨b,off,e,fun j x hx=>?_⟩
 rw [List.getElem?_take] at hx
 split at hx
 ·exact q j x hx
 ·cases hx
theorem l9Has_c (a:Option Addr) (n cap:Nat) (zs:List ShI) (x:ShI) (w:World) (hn:n≤1048576) (h:qD9 w a n zs) :
  Calls Tryz.prog 92 #[.slice a n cap,.agg #[.int .i64 x.r,.int .i64 x.k,.int .i64 x.e,.int .i64 x.f,.int .i64 x.s,.int .i64 x.n]] w fun e w'=>e = .returned (.bool (qL0 zs x))∧Below w.heap.size w w':=by
 have hz:Hid (zs.length=n):=h.1
 have hn':(n:Int)≤1048576:=by omega
 obtain ⟨w0,hw0⟩:∃ w0,w0=w.alloc (.cells #[.int .i64 x.r,.int .i64 x.k,.int .i64 x.e,.int .i64 x.f,.int .i64 x.s,.int .i64 x.n] 77):=⟨_,rfl⟩
 have hb0:Below w.heap.size w w0:=by rw [hw0];exact zN
 have hs0:w.heap.size < w0.heap.size:=by rw [hw0];simp
 have HB0:Hid (Below w.heap.size w w0):=hb0
 have H:Hid (qD9 w0 a n zs):=h.below hb0
 have HY:Hid (QC1 w0 w.heap.size 0 x):=by rw [hw0];exact QC1.new w x _
 clear h hb0
 go_enter Tryz.func92,Tryz.ntmps92
 go_wp2
 rw [← hw0]
 clear hw0
 go_loopw [5] (fun i wr=>∃ k:Nat,k≤n∧i = .int .i64 (k:Int)∧¬ x∈zs.take k∧Below w0.heap.size w0 wr) (fun i _=>n - (intOf i).toNat)
 case atStart=>exact ⟨0,Nat.zero_le _,rfl,by simp,Below.refl _ _⟩
 case round =>
  obtain ⟨k,hk,rfl,hm,hnx⟩:=hrel
  have HM:Hid (¬ x∈zs.take k):=hm
  have BN:Hid (Below w.heap.size w wr):=HB0.out.trans (hnx.mono (by omega))
  clear hm
  by_cases hlt:k < n
  ·obtain ⟨g,off,y,rfl,hs,hxa,hgl⟩:=H.out.at hlt
   have HS:Hid (zs[k]? = some y):=hs
   obtain ⟨g0,g1,g2,g3,g4,g5⟩:=hxa.below hnx hgl
   obtain ⟨y0,y1,y2,y3,y4,y5⟩:=HY.out.below hnx hs0
   simp only [Nat.zero_add] at y0 y1 y2 y3 y4 y5
   have hbw:g < wr.heap.size:=Nat.lt_of_lt_of_le hgl hnx.size
   have hyw:w.heap.size < wr.heap.size:=Nat.lt_of_lt_of_le hs0 hnx.size
   have hlt':(k:Int) < (n:Int):=by omega
   clear hs hxa
   cases hsame:qQ2 y x
   ·have HN:Hid (¬ x∈zs.take (k+1)):=by
     show ¬ x∈zs.take (k+1)
     rw [qJ0]
     rintro ⟨j,hj,hjs⟩
     by_cases e:j=k
     ·subst e
      rw [HS.out] at hjs
      simp [qQ2] at hsame
      exact hsame (Option.some.inj hjs)
     ·exact HM.out (qJ0.2 ⟨j,by omega,hjs⟩)
    go_wp2
    go_quiet (fail)
    go_wp2
    exact ⟨⟨k+1,by omega,by go_num,HN.out,below_drewN hnx _⟩,by simp [intOf];omega⟩
   ·have HI:Hid (qL0 zs x=true):=by
     show qL0 zs x=true
     simp [qQ2] at hsame
     subst hsame
     exact qN7.2 (List.mem_of_getElem? HS.out)
    go_wp2
    go_quiet (fail)
    go_wp2
    go_ret
    exact ⟨by rw [HI.out];rfl,below_drewN BN.out _⟩
  ·have hkn:k=n:=by omega
   subst hkn
   have HN:Hid (qL0 zs x=false):=by
    show qL0 zs x=false
    have:=HM.out
    rw [List.take_of_length_le (by rw [hz.out];exact Nat.le_refl _)] at this
    cases q:qL0 zs x
    ·rfl
    ·exact absurd (qN7.1 q) this
   go_wp2
   go_ret
   exact ⟨by rw [HN.out];rfl,BN.out⟩
theorem QY4 (a:Option Addr) (n cap:Nat) (zs:List ShI) (x:ShI) (w:World) (hn:n≤1048576) (h:qD9 w a n zs) :
  Calls Tryz.prog 148 #[.slice a n cap,.agg #[.int .i64 x.r,.int .i64 x.k,.int .i64 x.e,.int .i64 x.f,.int .i64 x.s,.int .i64 x.n]] w fun e w'=>(∃ i:Int,e = .returned (.int .i64 i)∧((0≤i∧x∈zs)∨(i = -1∧¬ x∈zs)))∧Below w.heap.size w w':=by
 have hz:Hid (zs.length=n):=h.1
 have hn':(n:Int)≤1048576:=by omega
 obtain ⟨w0,hw0⟩:∃ w0,w0=w.alloc (.cells #[.int .i64 x.r,.int .i64 x.k,.int .i64 x.e,.int .i64 x.f,.int .i64 x.s,.int .i64 x.n] 77):=⟨_,rfl⟩
 have hb0:Below w.heap.size w w0:=by rw [hw0];exact zN
 have hs0:w.heap.size < w0.heap.size:=by rw [hw0];simp
 have HB0:Hid (Below w.heap.size w w0):=hb0
 have H:Hid (qD9 w0 a n zs):=h.below hb0
 have HY:Hid (QC1 w0 w.heap.size 0 x):=by rw [hw0];exact QC1.new w x _
 clear h hb0
 go_enter Tryz.func148,Tryz.ntmps148
 go_wp2
 rw [← hw0]
 clear hw0
 go_loopw [8] (fun i wr=>∃ k:Nat,k≤n∧i = .int .i64 (k:Int)∧¬ x∈zs.take k∧Below w0.heap.size w0 wr) (fun i _=>n - (intOf i).toNat)
 case atStart=>exact ⟨0,Nat.zero_le _,rfl,by simp,Below.refl _ _⟩
 case round =>
  obtain ⟨k,hk,rfl,hm,hnx⟩:=hrel
  have HM:Hid (¬ x∈zs.take k):=hm
  have BN:Hid (Below w.heap.size w wr):=HB0.out.trans (hnx.mono (by omega))
  clear hm
  by_cases hlt:k < n
  ·obtain ⟨g,off,y,rfl,hs,hxa,hgl⟩:=H.out.at hlt
   have HS:Hid (zs[k]? = some y):=hs
   obtain ⟨g0,g1,g2,g3,g4,g5⟩:=hxa.below hnx hgl
   obtain ⟨y0,y1,y2,y3,y4,y5⟩:=HY.out.below hnx hs0
   simp only [Nat.zero_add] at y0 y1 y2 y3 y4 y5
   have hbw:g < wr.heap.size:=Nat.lt_of_lt_of_le hgl hnx.size
   have hyw:w.heap.size < wr.heap.size:=Nat.lt_of_lt_of_le hs0 hnx.size
   have hlt':(k:Int) < (n:Int):=by omega
   clear hs hxa
   cases hsame:qQ2 x y
   ·have HN:Hid (¬ x∈zs.take (k+1)):=by
     show ¬ x∈zs.take (k+1)
     rw [qJ0]
     rintro ⟨j,hj,hjs⟩
     by_cases e:j=k
     ·subst e
      rw [HS.out] at hjs
      simp [qQ2] at hsame
      exact hsame (Option.some.inj hjs).symm
     ·exact HM.out (qJ0.2 ⟨j,by omega,hjs⟩)
    go_wp2
    go_quiet (fail)
    go_wp2
    exact ⟨⟨k+1,by omega,by go_num,HN.out,below_drewN hnx _⟩,by simp [intOf];omega⟩
   ·have HI:Hid (x∈zs):=by
     show x∈zs
     simp [qQ2] at hsame
     subst hsame
     exact List.mem_of_getElem? HS.out
    go_wp2
    go_quiet (fail)
    go_wp2
    go_ret
    exact ⟨⟨_,rfl,Or.inl ⟨by omega,HI.out⟩⟩,below_drewN BN.out _⟩
  ·have hkn:k=n:=by omega
   subst hkn
   have HN:Hid (¬ x∈zs):=by
    have:=HM.out
    rw [List.take_of_length_le (by rw [hz.out];exact Nat.le_refl _)] at this
    exact this
   go_wp2
   go_ret
   exact ⟨⟨_,rfl,Or.inr ⟨rfl,HN.out⟩⟩,BN.out⟩
theorem QG1 (a:Option Addr) (n cap:Nat) (zs:List ShI) (x:ShI) (w:World) (hn:n≤1048576) (h:qD9 w a n zs) :
  Calls Tryz.prog 119 #[.slice a n cap,.agg #[.int .i64 x.r,.int .i64 x.k,.int .i64 x.e,.int .i64 x.f,.int .i64 x.s,.int .i64 x.n]] w fun e w'=>e = .returned (.bool (qL0 zs x))∧Below w.heap.size w w':=by
 have H:Hid (qD9 (w.alloc (.cells #[.int .i64 x.r,.int .i64 x.k,.int .i64 x.e,.int .i64 x.f,.int .i64 x.s,.int .i64 x.n] 77)) a n zs):=h.below (zN)
 clear h
 go_enter Tryz.func119,Tryz.ntmps119
 go_wp2_with fail
 refine (QY4 a n cap zs x _ hn H.out).mono ?_
 rintro e w1 ⟨⟨i,rfl,hi⟩,hb1⟩
 have HX:Hid (decide (0≤i)=qL0 zs x):=by
  show decide (0≤i)=qL0 zs x
  cases q:qL0 zs x
  ·have hq:¬ x∈zs:=fun m=>by rw [qN7.2 m] at q;cases q
   rcases hi with ⟨_,h2⟩ | ⟨rfl,_⟩
   ·exact absurd h2 hq
   ·rfl
  ·have hq:=qN7.1 q
   rcases hi with ⟨h1,_⟩ | ⟨_,h2⟩
   ·simp [h1]
   ·exact absurd hq h2
 clear hi
 go_wp2
 go_ret
 exact ⟨by rw [HX.out];rfl,((Below.refl w.heap.size w).alloc (Nat.le_refl _) _).trans (hb1.mono (by simp))⟩
end

end Go.Proofs.YthogdfnaojijhaaGreat
