/- Contracts. -/
import Derived.Test.YtlhgjackapdmbaaGreatDoorPq20
import Derived.Test.YtlhgjackapdmbaaGreatDoorPq12
import Derived.Test.YtlhgjackapdmbaaGreatDoorPq25
namespace Go.Proofs.YtlhgjackapdmbaaGreatDoor
set_option maxRecDepth 100000
set_option maxHeartbeats 8000000
open Go.RowKit
set_option linter.unusedVariables false
set_option linter.unusedSimpArgs false

structure qH3 where
 es:List Int
 al:Nat→Int→Int→Bool
 cl:Nat→List Int
def nextOf (o:Option StI):Int:=match o with
 | some y=>y.n
 | none => -1
def qB4 (E:qH3) (said:List StI) (e:Int):Int:=if e=E.es.headD 0 then 0 else nextOf (qH5 said 4 (e - 1))
def qC7 (E:qH3) (said:List StI) (x:StI):Int:=if qP7 said x.k x.e=true then 6 else if (E.es.length:Int)≤x.n then 3 else if E.es[x.n.toNat]?.getD 0≠x.e+1 then 10 else 0
def qG6 (E:qH3) (said:List StI) (locks:List LkI) (p:Nat) (x:StI):Int:=if (qT0 said x.e || qD3 said (qR6 x))=true then 9 else if E.al p x.f x.s=false then 8 else qD9 locks (E.cl p) x.e x.f x.s
def qF0 (E:qH3) (said:List StI) (locks:List LkI) (x:StI):Int:=if qB4 E said x.e < 0 then 4 else if 40≤said.length then 2 else if x.k=1 then qG6 E said locks (qB4 E said x.e).toNat x else if x.k=2 then 0 else qC7 E said x
def qD6 (E:qH3) (said:List StI) (locks:List LkI) (x:StI):Int:=if qC0 x=0 then (if qD3 said x=true then 0 else qF0 E said locks x) else qC0 x
def qE0 (E:qH3) (said:List StI) (locks:List LkI) (x:StI):List LkI:=if x.k=1 then qK2 locks (E.cl (qB4 E said x.e).toNat) x.e x.f x.s else locks
def qJ2 (said:List StI) (x:StI):List StI:=if qD3 said x=true then said else said++[x]
def qG7 (E:qH3) (said:List StI) (locks:List LkI) (x:StI):List LkI:=if qD3 said x=true then locks else qE0 E said locks x
def qE7 (E:qH3) (xs:List StI):Nat→Option (List LkI)
 | 0=>some []
 | k+1=>match qE7 E xs k with
  | none=>none
  | some ls=>match xs[k]? with
   | none=>some ls
   | some x=>if qD3 (xs.take k) x=true then none else if qD6 E (xs.take k) ls x=0 then some (qE0 E (xs.take k) ls x) else none
theorem qY3 {E:qH3} {xs:List StI} {k m:Nat} (h:qE7 E xs k=none) (hm:k≤m):qE7 E xs m=none:=by
  induction m with
  | zero => obtain rfl:k=0:=by omega
            exact h
  | succ m ih =>
    by_cases e:k=m+1
    · subst e;exact h
    · simp [qE7,ih (by omega)]
theorem QI8 {E:qH3} {xs:List StI} {k:Nat} {ls:List LkI} {x:StI} (h:qE7 E xs k=some ls) (hx:xs[k]? = some x):qE7 E xs (k+1)=if qD3 (xs.take k) x=true then none else if qD6 E (xs.take k) ls x=0 then some (qE0 E (xs.take k) ls x) else none:=by
 simp [qE7,h,hx]
structure RpS (E:qH3) (said:List StI) (ls:List LkI):Prop where
 lk:qI7 ls=0
 st:∀ x∈said,qC0 x=0
 nx:∀ x∈said,x.k=4→0≤x.n∧x.n < (E.es.length:Int)
 len:said.length≤40
theorem RpS.nil (E:qH3):RpS E [] []:=⟨rfl,fun x h=>(List.not_mem_nil h).elim,fun x h=>(List.not_mem_nil h).elim,Nat.zero_le _⟩
theorem st_zero {x:StI} (h:qC0 x=0):inR x.k 1 4=true∧ownB x=true∧rngB x=true:=by
 unfold qC0 at h
 cases h1:inR x.k 1 4 with
 | false=>rw [h1] at h;simp at h
 | true =>
  cases h2:ownB x with
  | false=>rw [h1,h2] at h;simp at h
  | true =>
   cases h3:rngB x with
   | false=>rw [h1,h2,h3] at h;simp at h
   | true=>exact ⟨rfl,rfl,rfl⟩
theorem qH1 {x:StI} (h:qC0 x=0):(1≤x.k∧x.k≤4)∧(1≤x.e∧x.e≤9)∧(0≤x.n∧x.n≤7)∧(0≤x.f∧x.f≤4)∧(0≤x.s∧x.s≤255)∧(x.k≤2→1≤x.f∧1≤x.s∧x.n=0)∧(3≤x.k→x.f=0∧x.s=0):=by
 obtain ⟨h1,h2,h3⟩:=st_zero h
 rw [qF9] at h1
 have h2':x=ownI x:=by
  have : qO0 x (ownI x)=true:=h2
  exact of_decide_eq_true this
 unfold rngB at h3
 cases q:inR x.e 1 9 with
 | false=>rw [q] at h3;simp at h3
 | true =>
  rw [q] at h3
  rw [qF9] at q
  unfold ownI at h2'
  cases f:QF8 x.k with
  | true =>
   rw [f] at h3 h2'
   simp only [Bool.true_eq_false, ↓reduceIte] at h3 h2'
   have hn:x.n=0:=by rw [h2']
   cases g:inR x.f 1 4 with
   | false=>rw [g] at h3;simp at h3
   | true =>
    rw [g] at h3
    simp only [Bool.true_eq_false, ↓reduceIte] at h3
    rw [qF9] at g h3
    have hk:x.k=1∨x.k=2:=by simpa [QF8] using f
    omega
  | false =>
   rw [f] at h3 h2'
   simp only [Bool.true_eq_false,Bool.false_eq_true, ↓reduceIte] at h3 h2'
   rw [qF9] at h3
   have hf:x.f=0:=by rw [h2']
   have hs:x.s=0:=by rw [h2']
   have hk:¬ (x.k=1∨x.k=2):=by
    intro q
    have : QF8 x.k=true:=by simpa [QF8] using q
    rw [this] at f;cases f
   omega
theorem take_lk {L:List LkI} {zs:List Int} {e f s:Int} (h:qD9 L zs e f s=0):qI7 (qK2 L zs e f s)=0:=(classes_law h).2.1
theorem QJ1 {E:qH3} {said:List StI} {ls:List LkI} {x:StI} (hc:qF0 E said ls x=0):¬ qB4 E said x.e < 0∧¬ 40≤said.length∧(x.k=1→qG6 E said ls (qB4 E said x.e).toNat x=0)∧(x.k≠1→x.k≠2→qC7 E said x=0):=by
 unfold qF0 at hc
 by_cases h1:qB4 E said x.e < 0
 ·rw [if_pos h1] at hc;omega
 ·rw [if_neg h1] at hc
  by_cases h2:40≤said.length
  ·rw [if_pos h2] at hc;omega
  ·rw [if_neg h2] at hc
   refine ⟨h1,h2,fun q=>?_,fun q q2=>?_⟩
   ·rw [if_pos q] at hc;exact hc
   ·rw [if_neg q,if_neg q2] at hc;exact hc
theorem issue_parts {E:qH3} {said:List StI} {ls:List LkI} {p:Nat} {x:StI} (hc:qG6 E said ls p x=0):(qT0 said x.e || qD3 said (qR6 x))=false∧E.al p x.f x.s=true∧qD9 ls (E.cl p) x.e x.f x.s=0:=by
 unfold qG6 at hc
 cases h1:(qT0 said x.e || qD3 said (qR6 x)) with
 | true=>rw [if_pos h1] at hc;omega
 | false =>
  rw [if_neg (by rw [h1];simp)] at hc
  cases h2:E.al p x.f x.s with
  | false=>rw [if_pos h2] at hc;omega
  | true=>rw [if_neg (by rw [h2];simp)] at hc;exact ⟨rfl,rfl,hc⟩
theorem next_parts {E:qH3} {said:List StI} {x:StI} (hc:qC7 E said x=0):qP7 said x.k x.e=false∧x.n < (E.es.length:Int)∧E.es[x.n.toNat]?.getD 0=x.e+1:=by
 unfold qC7 at hc
 cases h1:qP7 said x.k x.e with
 | true=>rw [if_pos h1] at hc;omega
 | false =>
  rw [if_neg (by rw [h1];simp)] at hc
  by_cases h2:(E.es.length:Int)≤x.n
  ·rw [if_pos h2] at hc;omega
  ·rw [if_neg h2] at hc
   by_cases h3:E.es[x.n.toNat]?.getD 0=x.e+1
   ·exact ⟨rfl,by omega,h3⟩
   ·rw [if_pos h3] at hc;omega
theorem new_lk {E:qH3} {said:List StI} {ls:List LkI} {x:StI} (h:RpS E said ls) (hc:qF0 E said ls x=0):qI7 (qE0 E said ls x)=0:=by
 unfold qE0
 by_cases q:x.k=1
 ·rw [if_pos q]
  exact take_lk (issue_parts ((QJ1 hc).2.2.1 q)).2.2
 ·rw [if_neg q];exact h.lk
theorem RpS.next {E:qH3} {said:List StI} {ls:List LkI} {x:StI} (h:RpS E said ls) (hs:qC0 x=0) (hc:qF0 E said ls x=0):RpS E (said++[x]) (qE0 E said ls x):=by
 have hl:=(QJ1 hc).2.1
 refine ⟨new_lk h hc,fun y hy=>?_,fun y hy hk=>?_,by rw [List.length_append];simp;omega⟩
 ·rcases List.mem_append.1 hy with q | q
  ·exact h.st y q
  ·rw [List.mem_singleton] at q;rw [q];exact hs
 ·rcases List.mem_append.1 hy with q | q
  ·exact h.nx y q hk
  ·rw [List.mem_singleton] at q
   subst q
   exact ⟨(qH1 hs).2.2.1.1,(next_parts ((QJ1 hc).2.2.2 (by omega) (by omega))).2.1⟩
theorem end_new {E:qH3} {said:List StI} {ls:List LkI} {x:StI} (hn:qD3 said x=false) (hc:qD6 E said ls x=0):qC0 x=0∧qF0 E said ls x=0:=by
 unfold qD6 at hc
 split at hc
 ·rename_i q
  rw [hn] at hc
  simp only [Bool.false_eq_true, ↓reduceIte] at hc
  exact ⟨q,hc⟩
 ·rename_i q;exact absurd hc q
theorem QD6 {E:qH3} {xs:List StI}:∀ k ls,k≤xs.length→qE7 E xs k=some ls→RpS E (xs.take k) ls
 | 0,ls,_,h=>by
  have : ([]:List LkI)=ls:=Option.some.inj h
  subst this
  simpa using RpS.nil E
 | k+1,ls,hk,h=>by
  cases hp:qE7 E xs k with
  | none=>rw [qY3 hp (by omega)] at h;cases h
  | some l0 =>
   have hx:=List.getElem?_eq_getElem (l:=xs) (i:=k) (by omega)
   have ih:=QD6 k l0 (by omega) hp
   rw [QI8 hp hx] at h
   split at h
   ·cases h
   ·rename_i hn
    split at h
    ·rename_i hc
     have e:qE0 E (xs.take k) l0 xs[k]=ls:=Option.some.inj h
     subst e
     have hn':qD3 (xs.take k) xs[k]=false:=by simpa using hn
     obtain ⟨q1,q2⟩:=end_new hn' hc
     rw [List.take_succ_eq_append_getElem (by omega)]
     exact ih.next q1 q2
    ·cases h
theorem known_in {E:qH3} {said:List StI} {ls:List LkI} (h:RpS E said ls) (hE:0 < E.es.length) (e:Int):qB4 E said e = -1∨(0≤qB4 E said e∧qB4 E said e < (E.es.length:Int)):=by
 unfold qB4
 split
 ·exact .inr ⟨by omega,by omega⟩
 ·cases hk:qH5 said 4 (e - 1) with
  | none=>exact .inl rfl
  | some y =>
   have hm:=List.mem_of_find?_eq_some hk
   have hp:=List.find?_some hk
   simp only [Bool.and_eq_true,decide_eq_true_eq] at hp
   exact .inr (h.nx y hm hp.1)

abbrev KR (W W':World):Prop:=(∀ b o,b < W.heap.size→W'.cell? ⟨b,o,none⟩=W.cell? ⟨b,o,none⟩)∧Below W.heap.size W W'
theorem known_is {E:qH3} {cs:List qA5} {c0:qA5} (hE:E.es=cs.map (·.e)) (h0:cs[0]? = some c0) (said:List StI) (e:Int):qB4 E said e=if e=c0.e then 0 else nextOf (qH5 said 4 (e - 1)):=by
 unfold qB4
 rw [hE]
 have : (cs.map (·.e)).headD 0=c0.e:=by
  cases cs with
  | nil=>cases h0
  | cons x r=>simp at h0;subst h0;rfl
 rw [this]
theorem QK4 (E:qH3) (b:Nat) (r:qG5) (a:Option Addr) (m cap:Nat) (cs:List qA5) (e:Int) (w:World) (hE:E.es=cs.map (·.e)) (hx:qF8 w b r) (h:qL6 w r.sa r.sn r.ss) (hn:r.sn≤1048576) (hc:qA6 w a m cs) (hm:0 < m) (hm8:m≤8) (he:1≤e∧e≤9) :
  Calls Tryz.prog 76 #[.pointer (some ⟨b,0,none⟩),.slice a m cap,.int .i64 e] w fun d w'=>d = .returned (.int .i64 (qB4 E r.ss e))∧Below w.heap.size w w':=by
 obtain ⟨g0,off0,c0,rfl,hc0,hat0,_⟩:=hc.at hm
 rw [known_is hE hc0]
 have hg0:=hat0.lt
 obtain ⟨v0,_⟩:=hat0
 simp only [Nat.zero_mul,Nat.add_zero] at v0
 clear hc hE hc0
 obtain ⟨i,u,sa,n,sc,said,la,ln,lc,ls⟩:=r
 simp only at hx h hn ⊢
 have HZ:Hid (said.length=n):=h.1
 have H:Hid (qL6 w sa n said):=h
 have hbl:=hx.lt
 obtain ⟨_,_,x2,_⟩:=hx
 have X2:Hid (w.cell? ⟨b,2,none⟩=some (.slice sa n sc)):=x2
 clear h x2
 have hn':(n:Int)≤1048576:=by omega
 have hm':(0:Int) < (m:Int):=by omega
 by_cases q0:e=c0.e
 ·have b0:(e==c0.e)=true:=by simp [q0]
  rw [if_pos q0]
  clear q0
  go_enter Tryz.func76,Tryz.ntmps76
  go_wp2
  go_ret
  exact ⟨rfl,Below.refl _ _⟩
 ·have b0:(e==c0.e)=false:=by simp [q0]
  rw [if_neg q0]
  clear q0
  obtain ⟨t,ht⟩:∃ t,qH5 said 4 (e - 1)=t:=⟨_,rfl⟩
  have HT:Hid (qH5 said 4 (e - 1)=t):=ht
  rw [ht]
  clear ht
  obtain ⟨v,hv⟩:∃ v:Int,nextOf t=v:=⟨_,rfl⟩
  have HV:Hid (nextOf t=v):=hv
  rw [hv]
  clear hv
  obtain ⟨he1,he9⟩:=he
  go_enter Tryz.func76,Tryz.ntmps76
  go_wp2
  clear v0 b0
  go_loopw [7] (fun i wr=>∃ j:Nat,j≤n∧i = .int .i64 (j:Int)∧qH5 (said.drop j) 4 (e - 1)=t∧Below w.heap.size w wr) (fun i _=>n - (intOf i).toNat)
  case atStart=>exact ⟨0,Nat.zero_le _,rfl,HT.out,Below.refl _ _⟩
  case round =>
   obtain ⟨j,hj,rfl,hp,hnx⟩:=hrel
   have x2:=(hnx.cell (p:=⟨b,2,none⟩) hbl).trans X2.out
   have hbw2:b < wr.heap.size:=Nat.lt_of_lt_of_le hbl hnx.size
   by_cases hlt:j < n
   ·obtain ⟨g,off,x,rfl,hs,hxa,hgl⟩:=H.out.at hlt
    rw [QA4 hs] at hp
    obtain ⟨y0,y1,y2,y3,y4⟩:=hxa.below hnx hgl
    have hbw:g < wr.heap.size:=Nat.lt_of_lt_of_le hgl hnx.size
    have hlt':(j:Int) < (n:Int):=by omega
    clear hs hxa
    by_cases q1:x.k=4
    ·have b1:(x.k==4)=true:=by simp [q1]
     by_cases q2:x.e=e - 1
     ·have b2:(x.e==e - 1)=true:=by simp [q2]
      rw [if_pos ⟨q1,q2⟩] at hp
      have HP:Hid (x.n=v):=by have:=HV.out;rw [← hp] at this;exact this
      clear hp q1 q2
      go_wp2
      go_ret
      exact ⟨by rw [← HP.out];rfl,hnx⟩
     ·have b2:(x.e==e - 1)=false:=by simp [q2]
      rw [if_neg (fun q=>q2 q.2)] at hp
      have HP:Hid (qH5 (said.drop (j+1)) 4 (e - 1)=t):=hp
      clear hp q1 q2
      go_wp2
      exact ⟨⟨j+1,by omega,by go_num,HP.out,hnx⟩,by simp [intOf];omega⟩
    ·have b1:(x.k==4)=false:=by simp [q1]
     rw [if_neg (fun q=>q1 q.1)] at hp
     have HP:Hid (qH5 (said.drop (j+1)) 4 (e - 1)=t):=hp
     clear hp q1
     go_wp2
     exact ⟨⟨j+1,by omega,by go_num,HP.out,hnx⟩,by simp [intOf];omega⟩
   ·have hkn:j=n:=by omega
    subst hkn
    rw [List.drop_of_length_le (by rw [HZ.out];exact Nat.le_refl _)] at hp
    have HP:Hid ((-1:Int)=v):=by have:=HV.out;rw [← hp] at this;exact this
    clear hp
    go_wp2
    go_ret
    exact ⟨by rw [← HP.out];rfl,hnx⟩
theorem es_at {E:qH3} {cs:List qA5} (hE:E.es=cs.map (·.e)) {k:Nat} {c:qA5} (hc:cs[k]? = some c):E.es[k]?.getD 0=c.e:=by
 rw [hE,List.getElem?_map,hc];rfl
theorem l8Next_c (E:qH3) (b:Nat) (r:qG5) (a:Option Addr) (m cap:Nat) (cs:List qA5) (bx:Nat) (x:StI) (w:World) (hE:E.es=cs.map (·.e)) (hr:qF8 w b r) (h:qL6 w r.sa r.sn r.ss) (hn:r.sn≤1048576) (hc:qA6 w a m cs) (hm8:m≤8) (hx:qR3 w bx 0 x) (he:1≤x.e∧x.e≤9) (hxn:0≤x.n∧x.n≤7) :
  Calls Tryz.prog 78 #[.pointer (some ⟨b,0,none⟩),.slice a m cap,.pointer (some ⟨bx,0,none⟩)] w fun d w'=>d = .returned (.int .i64 (qC7 E r.ss x))∧Below w.heap.size w w':=by
 have HK:Hid (∀ w2,KR w w2→Calls Tryz.prog 101 #[.pointer (some ⟨b,0,none⟩),.int .i64 x.k,.int .i64 x.e] w2 fun d w'=>d = .returned (.bool (qP7 r.ss x.k x.e))∧Below w2.heap.size w2 w'):=fun w2 q=>l8Kind_c b r x.k x.e w2 (hr.below q.2) (h.below q.2) hn
 have hbx:bx < w.heap.size:=zL w ⟨bx,0,none⟩ (by simpa using hx.1)
 have HC:Hid (qA6 w a m cs):=hc
 have HL:Hid (E.es.length=m):=by show E.es.length=m;rw [hE,List.length_map];exact hc.len
 have HE:Hid (E.es=cs.map (·.e)):=hE
 have HX:Hid (qR3 w bx 0 x):=hx
 obtain ⟨x0,x1,x2,x3,x4⟩:=hx
 simp only [Nat.zero_add] at x0 x1 x2 x3 x4
 clear hr h hc hE x2 x3
 have hm':(m:Int)≤8:=by omega
 obtain ⟨he1,he9⟩:=he
 obtain ⟨hn0,hn7⟩:=hxn
 cases hk:qP7 r.ss x.k x.e
 ·rw [hk] at HK
  by_cases hl:(m:Int)≤x.n
  ·have HV:Hid (qC7 E r.ss x=3):=by show qC7 E r.ss x=3;unfold qC7;rw [if_neg (by rw [hk];simp),if_pos (by rw [HL.out];exact hl)]
   rw [HV.out]
   clear hk
   go_enter Tryz.func78,Tryz.ntmps78
   go_upto_region 1 with fail
   go_region_held3 (fun w'=>KR w w') (first | exact hS | exact qB3 _)
    (first | (go_at_call 101;refine (HK.out _ (by assumption)).mono ?_;rintro d w' ⟨rfl,hb2⟩;have hS:=qA4 (by assumption) hb2))
   go_wp2
   go_ret
   exact ⟨rfl,hS.2⟩
  ·obtain ⟨k,hk'⟩:∃ k:Nat,x.n=(k:Int):=Int.eq_ofNat_of_zero_le hn0
   have hkm:k < m:=by omega
   obtain ⟨g,off,c,rfl,hck,hat,_⟩:=HC.out.at hkm
   have hes:=es_at HE.out hck
   have hgl:=hat.lt
   have HAT:Hid (qH8 w g (off+k * 5) c):=hat
   by_cases hce:c.e=x.e+1
   ·have HV:Hid (qC7 E r.ss x=0):=by show qC7 E r.ss x=0;unfold qC7;rw [if_neg (by rw [hk];simp),if_neg (by rw [HL.out];exact hl),hk',Int.toNat_natCast,hes,if_neg (by rw [hce];simp)]
    have hceb:(c.e != x.e+1)=false:=by simp [hce]
    rw [HV.out]
    rw [hk'] at x4 hl
    have HX4:Hid (x.n=(k:Int)):=hk'
    clear hk hce hck hat hes hk' hn0 hn7
    have hl':¬ ((m:Int)≤(k:Int)):=hl
    have hlt':(k:Int) < (m:Int):=by omega
    go_enter Tryz.func78,Tryz.ntmps78
    go_upto_region 1 with fail
    go_region_held3 (fun w'=>KR w w') (first | exact hS | exact qB3 _)
     (first | (go_at_call 101;refine (HK.out _ (by assumption)).mono ?_;rintro d w' ⟨rfl,hb2⟩;have hS:=qA4 (by assumption) hb2))
    obtain ⟨y0,y1,_⟩:=HAT.out
    go_wp2
    go_quiet (fail)
    go_wp2
    go_ret
    exact ⟨rfl,below_drewN hS.2 _⟩
   ·have HV:Hid (qC7 E r.ss x=10):=by show qC7 E r.ss x=10;unfold qC7;rw [if_neg (by rw [hk];simp),if_neg (by rw [HL.out];exact hl),hk',Int.toNat_natCast,hes,if_pos hce]
    have hceb:(c.e != x.e+1)=true:=by simp [hce]
    rw [HV.out]
    rw [hk'] at x4 hl
    have HX4:Hid (x.n=(k:Int)):=hk'
    clear hk hce hck hat hes hk' hn0 hn7
    have hl':¬ ((m:Int)≤(k:Int)):=hl
    have hlt':(k:Int) < (m:Int):=by omega
    go_enter Tryz.func78,Tryz.ntmps78
    go_upto_region 1 with fail
    go_region_held3 (fun w'=>KR w w') (first | exact hS | exact qB3 _)
     (first | (go_at_call 101;refine (HK.out _ (by assumption)).mono ?_;rintro d w' ⟨rfl,hb2⟩;have hS:=qA4 (by assumption) hb2))
    obtain ⟨y0,y1,_⟩:=HAT.out
    go_wp2
    go_quiet (fail)
    go_wp2
    go_ret
    exact ⟨rfl,below_drewN hS.2 _⟩
 ·rw [hk] at HK
  have HV:Hid (qC7 E r.ss x=6):=by show qC7 E r.ss x=6;unfold qC7;rw [if_pos hk]
  rw [HV.out]
  clear hk
  go_enter Tryz.func78,Tryz.ntmps78
  go_upto_region 1 with fail
  go_region_held3 (fun w'=>KR w w') (first | exact hS | exact qB3 _)
   (first | (go_at_call 101;refine (HK.out _ (by assumption)).mono ?_;rintro d w' ⟨rfl,hb2⟩;have hS:=qA4 (by assumption) hb2))
  go_wp2
  go_ret
  exact ⟨rfl,hS.2⟩

end Go.Proofs.YtlhgjackapdmbaaGreatDoor
