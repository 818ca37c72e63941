/- Contracts. -/
import Derived.Test.YtlhgjackapdmbaaGreatDoorPe08
import Derived.Test.YtlhgjackapdmbaaGreatDoorPe10
namespace Go.Proofs.YtlhgjackapdmbaaGreatDoor
set_option maxRecDepth 100000
set_option maxHeartbeats 8000000
open Go.RowKit
set_option linter.unusedVariables false
set_option linter.unusedSimpArgs false

theorem hasForm_c (s p:Int) (h0:0≤s) (h1:s≤15) (p0:1≤p) (p1:p≤4) (w:World) :
  Calls Tryz.prog 162 #[.int .i64 s,.int .i64 p] w fun e w'=>e = .returned (.bool (qJ0 s p))∧w=w':=by
 have hp:p=1∨p=2∨p=3∨p=4:=by omega
 rcases hp with rfl | rfl | rfl | rfl
 ·have e1:=qQ4 s 1 h0 (by omega) (by omega) (by omega)
  simp at e1
  go_enter Tryz.func162,Tryz.ntmps162
  go_wp2
  go_ret
  exact ⟨rfl,rfl⟩
 ·have e1:=qQ4 s 2 h0 (by omega) (by omega) (by omega)
  simp at e1
  go_enter Tryz.func162,Tryz.ntmps162
  go_wp2
  go_ret
  exact ⟨rfl,rfl⟩
 ·have e1:=qQ4 s 3 h0 (by omega) (by omega) (by omega)
  simp at e1
  go_enter Tryz.func162,Tryz.ntmps162
  go_wp2
  go_ret
  exact ⟨rfl,rfl⟩
 ·have e1:=qQ4 s 4 h0 (by omega) (by omega) (by omega)
  simp at e1
  go_enter Tryz.func162,Tryz.ntmps162
  go_wp2
  go_ret
  exact ⟨rfl,rfl⟩
theorem in_dec:∀ n:Fin 16,∀ k:Fin 4,(bits .and .i64 (((n.val:Nat):Int) / ((2 ^ k.val:Nat):Int)) 1==1)=n.val.testBit k.val:=by
 decide +kernel
theorem in_i64 (s p:Int) (h0:0≤s) (h1:s≤15) (p0:1≤p) (p1:p≤4):(bits .and .i64 (s / ((2 ^ (p - 1).toNat:Nat):Int)) 1==1)=qJ0 s p:=by
 obtain ⟨n,rfl⟩:=Int.eq_ofNat_of_zero_le h0
 have:=in_dec ⟨n,by omega⟩ ⟨(p - 1).toNat,by omega⟩
 simpa [qJ0] using this
theorem l5In_c (s p:Int) (h0:0≤s) (h1:s≤15) (p0:1≤p) (p1:p≤4) (w:World) :
  Calls Tryz.prog 129 #[.int .i64 s,.int .i64 p] w fun e w'=>e = .returned (.bool (qJ0 s p))∧w=w':=by
 have hp:p=1∨p=2∨p=3∨p=4:=by omega
 rcases hp with rfl | rfl | rfl | rfl
 ·have e1:Hid ((bits .and .i64 s 1==1)=qJ0 s 1):=by have:=in_i64 s 1 h0 h1 (by omega) (by omega);simp at this;exact this
  go_enter Tryz.func129,Tryz.ntmps129
  go_wp2
  go_ret
  exact ⟨by rw [← e1.out];rfl,rfl⟩
 ·have e1:Hid ((bits .and .i64 (s / 2) 1==1)=qJ0 s 2):=by have:=in_i64 s 2 h0 h1 (by omega) (by omega);simp at this;exact this
  go_enter Tryz.func129,Tryz.ntmps129
  go_wp2
  go_ret
  exact ⟨by rw [← e1.out];rfl,rfl⟩
 ·have e1:Hid ((bits .and .i64 (s / 4) 1==1)=qJ0 s 3):=by have:=in_i64 s 3 h0 h1 (by omega) (by omega);simp at this;exact this
  go_enter Tryz.func129,Tryz.ntmps129
  go_wp2
  go_ret
  exact ⟨by rw [← e1.out];rfl,rfl⟩
 ·have e1:Hid ((bits .and .i64 (s / 8) 1==1)=qJ0 s 4):=by have:=in_i64 s 4 h0 h1 (by omega) (by omega);simp at this;exact this
  go_enter Tryz.func129,Tryz.ntmps129
  go_wp2
  go_ret
  exact ⟨by rw [← e1.out];rfl,rfl⟩
def bothB (zs:List Int) (a b:Int):Bool:=zs.any (fun c=>qJ0 c a&&qJ0 c b)
def clashB (zs:List Int) (a b:Int):Bool:=(a != b)&&bothB zs a b
def clashV (zs:List Int) (a b:Int):Bool:=(qG7 zs==0)&&(inR a 1 4&&(inR b 1 4&&clashB zs a b))
theorem cl_at {zs:List Int} {k:Nat} {x:Int} (h:∀ x∈zs,inR x 0 15=true) (hx:zs[k]? = some x):0≤x∧x≤15:=(qG9 _ _ _).1 (h x (List.mem_of_getElem? hx))

def qG3 (e f:Int) (k:Nat) (ps:List Int):List LkI:=ps.map (fun p=>(⟨e,(k:Int),p,f⟩:LkI))
def qS5 (zs:List Int) (e f s:Int) (k:Nat):List LkI:=if qJ0 (zs[k]?.getD 0) f=true then qG3 e f k (qB2 s 8) else []
def qB3 (zs:List Int) (e f s:Int):Nat→List LkI
 | 0=>[]
 | k+1=>qB3 zs e f s k++qS5 zs e f s k
theorem needOne_len (zs:List Int) (e f s:Int) (k:Nat):(qS5 zs e f s k).length≤8:=by
 unfold qS5
 split
 ·simpa [qG3] using qY8 s 8
 ·simp
theorem qV5 (zs:List Int) (e f s:Int):∀ k,(qB3 zs e f s k).length≤k * 8
 | 0=>by simp [qB3]
 | k+1=>by
  have h1:=qV5 zs e f s k
  have h2:=needOne_len zs e f s k
  simp only [qB3,List.length_append]
  omega
def qE5 (zs:List Int) (e f s:Int):Int:=if qG7 zs=0 then (if (inR e 1 9&&(inR f 1 4&&inR s 0 255))=true then 0 else 3) else qG7 zs
theorem QK9 {zs:List Int} {e f s:Int} (h:qE5 zs e f s=0):qG7 zs=0∧inR e 1 9=true∧inR f 1 4=true∧inR s 0 255=true:=by
 unfold qE5 at h
 split at h
 ·rename_i q
  split at h
  ·rename_i q2
   simp only [Bool.and_eq_true] at q2
   exact ⟨q,q2.1,q2.2.1,q2.2.2⟩
  ·cases h
 ·exact absurd h (by assumption)
theorem need_of {zs:List Int} {e f s:Int} (h0:qG7 zs=0) (h1:inR e 1 9=true) (h2:inR f 1 4=true) (h3:inR s 0 255=true):qE5 zs e f s=0:=by
 simp [qE5,h0,h1,h2,h3]
theorem cell_new4 (W:World) (b:Nat) (hb:b=W.heap.size) (u0 u1 u2 u3:Value) (T:TypeId):∀ j u,[u0,u1,u2,u3][j]? = some u→(W.alloc (.cells #[u0,u1,u2,u3] T)).cell? ((⟨b,0,none⟩:Addr).add j)=some u:=by
 subst hb
 intro j u hj
 match j,hj with
 | 0,hj=>simp at hj;subst hj;simp [Addr.add]
 | 1,hj=>simp at hj;subst hj;simp [Addr.add]
 | 2,hj=>simp at hj;subst hj;simp [Addr.add]
 | 3,hj=>simp at hj;subst hj;simp [Addr.add]
theorem lk_apart {w:World} {B B' gl m cl:Nat} {v:Value} {gs:List LkI} {xs:List Value} (h:qA4 w B v gs) (k:w.ownsRow B' 2 1 (.slice (some ⟨gl,0,none⟩) m cl) m xs):v.ownBlock≠some gl:=by
 intro e
 have h0:w.ownsRow B 98 4 v gs.length (qA3 gs):=h
 rcases h0.2 with ⟨h',_⟩ | ⟨g,cap,cur,h',_,hg,_⟩
 ·rw [h'] at e;cases e
 ·rw [h'] at e
  simp [Value.ownBlock] at e
  subst e
  rcases k.2 with ⟨k',_⟩ | ⟨g',cap',cur',k',_,kg,_⟩
  ·cases k'
  ·simp at k'
   obtain ⟨rfl,_⟩:=k'
   rw [hg] at kg
   simp at kg
theorem ints_row {w:World} {B gl n c:Nat} {L:List Int} (h:w.ownsRow B 2 1 (.slice (some ⟨gl,0,none⟩) n c) n (L.map (Value.int .i64))) {k:Nat} {x:Int} (hx:L[k]? = some x) (hk:k < n):w.cell? ⟨gl,k,none⟩=some (.int .i64 x):=by
 rw [h.cellAt k (by omega)]
 simp [hx]
theorem needAt_next {L:List Int} {e f p:Int} {k m:Nat} (h:L[m]? = some p):qG3 e f k (L.take (m+1))=qG3 e f k (L.take m)++[⟨e,(k:Int),p,f⟩]:=by
 have hm:m < L.length:=by
  by_cases q:m < L.length
  ·exact q
  ·rw [List.getElem?_eq_none (by omega)] at h;cases h
 have : L[m]=p:=by rw [List.getElem?_eq_getElem hm] at h;exact Option.some.inj h
 rw [List.take_succ_eq_append_getElem hm,this]
 simp [qG3]
theorem l5Needs_c (a:Option Addr) (n cap:Nat) (zs:List Int) (e f s:Int) (w:World) (h:qH0 w a n zs) (hcl:∀ x∈zs,inR x 0 15=true) (hn:n≤4) (f0:1≤f) (f1:f≤4) (s0:0≤s) (s1:s≤255) :
  Calls Tryz.prog 100 #[.slice a n cap,.int .i64 e,.int .i64 f,.int .i64 s] w fun r w'=>∃ g c,r = .returned (.slice (some ⟨g,0,none⟩) (qB3 zs e f s n).length c)∧qA4 w' w.heap.size (.slice (some ⟨g,0,none⟩) (qB3 zs e f s n).length c) (qB3 zs e f s n)∧Below w.heap.size w w':=by
 obtain ⟨i0,hi,hz0,hz1,hz2⟩:=info_parts Tryz.info98
 have hn':(n:Int)≤4:=by omega
 have HZ:Hid (zs.length=n):=h.1
 have HK:Hid (∀ x∈zs,inR x 0 15=true):=hcl
 obtain ⟨w1,hw1⟩:∃ w1,w1=w.alloc (.cells #[] 98):=⟨_,rfl⟩
 have hb1:Below w.heap.size w w1:=by rw [hw1];exact zN
 have HO1:Hid (qA4 w1 w.heap.size (.slice (some ⟨w.heap.size,0,none⟩) 0 0) []):=by rw [hw1];exact World.ownsRow_lit w #[] 0 (Nat.le_refl _) (Nat.zero_le _) rfl
 have HI1:Hid (qH0 w1 a n zs):=h.below hb1
 have HB1:Hid (Below w.heap.size w w1):=hb1
 have HAL0:Hid (∀ b off,a=some ⟨b,off,none⟩→n=0∨b < w.heap.size):=int_lt h
 clear h hcl hb1
 go_enter Tryz.func100,Tryz.ntmps100
 go_wp2_with fail
 rw [← hw1]
 clear hw1
 refine (QU4 s s0 s1 _).mono ?_
 rintro r w2 ⟨gl,cl,rfl,hown2,hb2⟩
 obtain ⟨L,hL⟩:∃ L,qB2 s 8=L:=⟨_,rfl⟩
 rw [hL] at hown2 ⊢
 have hL8:L.length≤8:=by rw [← hL];exact qY8 s 8
 have hL8':(L.length:Int)≤8:=by omega
 have HLL:Hid (qB2 s 8=L):=hL
 have HIL:Hid (w2.ownsRow w1.heap.size 2 1 (.slice (some ⟨gl,0,none⟩) L.length cl) L.length (L.map (Value.int .i64))):=hown2
 have HAL:Hid (∀ b off,a=some ⟨b,off,none⟩→n=0∨b < w.heap.size):=HAL0.out
 have HO2:Hid (qA4 w2 w.heap.size (.slice (some ⟨w.heap.size,0,none⟩) 0 0) []):=HO1.out.below hb2
 have HI2:Hid (qH0 w2 a n zs):=HI1.out.below hb2
 have HB2:Hid (Below w.heap.size w w2):=HB1.out.trans (hb2.mono HB1.out.size)
 have hsz2:w.heap.size≤w2.heap.size:=HB2.out.size
 clear hown2 hb2 hL HO1 HI1 HB1
 go_wp2
 go_loopw [9,11] (fun v i wr=>∃ k:Nat,k≤n∧i = .int .i64 (k:Int)∧qA4 wr w.heap.size v (qB3 zs e f s k)∧v ≠ .slice none 0 0∧Below w.heap.size w wr∧qH0 wr a n zs∧wr.ownsRow w1.heap.size 2 1 (.slice (some ⟨gl,0,none⟩) L.length cl) L.length (L.map (Value.int .i64))) (fun _ i _=>n - (intOf i).toNat)
 case atStart=>exact ⟨0,Nat.zero_le _,rfl,HO2.out,by simp,HB2.out,HI2.out,HIL.out⟩
 case round =>
  obtain ⟨k,hk,rfl,hown,hnn,hnx,hia,hil⟩:=hrel
  have HO:Hid (qA4 wr w.heap.size u9 (qB3 zs e f s k)):=hown
  have HNN:Hid (u9 ≠ .slice none 0 0):=hnn
  have HNX:Hid (Below w.heap.size w wr):=hnx
  have HIA:Hid (qH0 wr a n zs):=hia
  have HIL2:Hid (wr.ownsRow w1.heap.size 2 1 (.slice (some ⟨gl,0,none⟩) L.length cl) L.length (L.map (Value.int .i64))):=hil
  clear hown hnn hnx hia hil
  by_cases hlt:k < n
  ·have hlt':(k:Int) < (n:Int):=by omega
   obtain ⟨x,hx⟩:∃ x,zs[k]? = some x:=⟨_,List.getElem?_eq_getElem (by rw [HZ.out];exact hlt)⟩
   obtain ⟨x0,x1⟩:=cl_at HK.out hx
   have HX:Hid (zs[k]? = some x):=hx
   obtain ⟨t,ht⟩:∃ t,qJ0 x f=t:=⟨_,rfl⟩
   have HT:Hid (qJ0 x f=t):=ht
   clear hx ht
   cases t
   ·have HN:Hid (qB3 zs e f s (k+1)=qB3 zs e f s k):=by show qB3 zs e f s (k+1)=_;simp [qB3,qS5,HX.out,HT.out]
    go_wp2
    go_loopw [9,12] (fun v j wq=>v=u9∧j = .int .i64 0∧wq=wr) (fun _ _ _=>0)
    case atStart=>exact ⟨rfl,rfl,rfl⟩
    case round =>
     obtain ⟨rfl,rfl,rfl⟩:=hrel
     by_cases hl0:0 < L.length
     ·have hl0':(0:Int) < (L.length:Int):=by omega
      obtain ⟨b,off,y,e2,hy,c0,hbl⟩:=HIA.out.at hlt
      subst e2
      rw [HX.out] at hy
      cases hy
      go_wp2_with (go_at_call 129;refine (l5In_c _ _ (by omega) (by omega) (by omega) (by omega) _).mono ?_;rintro e w' ⟨rfl,rfl⟩;rw [HT.out])
      exact ⟨⟨k+1,by omega,by go_num,by rw [HN.out];exact HO.out,HNN.out,HNX.out,HIA.out,HIL2.out⟩,by simp [intOf];omega⟩
     ·have hl0':¬ ((0:Int) < (L.length:Int)):=by omega
      go_wp2
      exact ⟨⟨k+1,by omega,by go_num,by rw [HN.out];exact HO.out,HNN.out,HNX.out,HIA.out,HIL2.out⟩,by simp [intOf];omega⟩
   ·have HN:Hid (qB3 zs e f s (k+1)=qB3 zs e f s k++qG3 e f k L):=by show qB3 zs e f s (k+1)=_;simp [qB3,qS5,HX.out,HT.out,HLL.out]
    go_wp2
    go_loopw [9,12] (fun v j wq=>∃ m:Nat,m≤L.length∧j = .int .i64 (m:Int)∧qA4 wq w.heap.size v (qB3 zs e f s k++qG3 e f k (L.take m))∧v ≠ .slice none 0 0∧Below w.heap.size w wq∧qH0 wq a n zs∧wq.ownsRow w1.heap.size 2 1 (.slice (some ⟨gl,0,none⟩) L.length cl) L.length (L.map (Value.int .i64))) (fun _ j _=>L.length - (intOf j).toNat)
    case atStart=>exact ⟨0,Nat.zero_le _,rfl,by simpa [qG3] using HO.out,HNN.out,HNX.out,HIA.out,HIL2.out⟩
    case round =>
     obtain ⟨m,hm,rfl,hown,hnn,hnx,hia,hil⟩:=hrel
     have HO3:Hid (qA4 wr w.heap.size u9 (qB3 zs e f s k++qG3 e f k (L.take m))):=hown
     have HNN3:Hid (u9 ≠ .slice none 0 0):=hnn
     have HNX3:Hid (Below w.heap.size w wr):=hnx
     have HIA3:Hid (qH0 wr a n zs):=hia
     have HIL3:Hid (wr.ownsRow w1.heap.size 2 1 (.slice (some ⟨gl,0,none⟩) L.length cl) L.length (L.map (Value.int .i64))):=hil
     clear hown hnn hnx hia hil HO HNN HNX HIA HIL2
     by_cases hlm:m < L.length
     ·obtain ⟨b,off,y,e2,hy,c0,hbl⟩:=HIA3.out.at hlt
      rw [HX.out] at hy
      cases hy
      have hp:L[m]? = some L[m]:=List.getElem?_eq_getElem hlm
      generalize L[m]=p at hp
      have c1:=ints_row HIL3.out hp hlm
      have hlm':(m:Int) < (L.length:Int):=by omega
      have HP:Hid (qB3 zs e f s k++qG3 e f k (L.take (m+1))=(qB3 zs e f s k++qG3 e f k (L.take m))++[⟨e,(k:Int),p,f⟩]):=by
       show qB3 zs e f s k++qG3 e f k (L.take (m+1))=_
       rw [needAt_next hp,List.append_assoc]
      have HLE:Hid ((qB3 zs e f s k++qG3 e f k (L.take m)).length≤40):=by
       show (qB3 zs e f s k++qG3 e f k (L.take m)).length≤40
       have:=qV5 zs e f s k
       simp [qG3]
       omega
      generalize qB3 zs e f s k++qG3 e f k (L.take m)=es at HO3 HP HLE
      have hsw:=HNX3.out.size
      have HA:Hid (a=some ⟨b,off,none⟩):=e2
      subst e2
      clear hp
      go_wp2_with (first | (go_at_call 129;refine (l5In_c _ _ (by omega) (by omega) (by omega) (by omega) _).mono ?_;rintro e w' ⟨rfl,rfl⟩;rw [HT.out]) | (at_builtin;refine wpList_append_own _ rfl _ _ 31 rfl w.heap.size 98 i0 (.agg #[.int .i64 0,.int .i64 0,.int .i64 0,.int .i64 0]) 4 32 Tryz.under31 hi hz0 hz1 hz2 rfl (by decide) u9 (es.length) (qA3 es) rfl ?c0 ⟨_,0,none⟩ 1 1 [.int .i64 e,.int .i64 (k:Int),.int .i64 p,.int .i64 f] rfl rfl ?c1 ?c2 ?c3 ?c4 ?c5 ?_))
      case c0=>exact HO3.out.below (zN)
      case c1=>exact cell_new4 _ _ (by first | rfl | simp) _ _ _ _ _
      case c2=>intro u hu;simp at hu;rcases hu with rfl | rfl | rfl | rfl <;> rfl
      case c3=>have:=HLE.out;unfold maxLen;omega
      case c4=>have:=HLE.out;omega
      case c5=>simp;omega
      ·intro v' w' hown' hgrow hnil
       have B0:Below wr.heap.size wr (wr.alloc (.cells #[.int .i64 e,.int .i64 (k:Int),.int .i64 p,.int .i64 f] 98)):=zN
       have hlt9:∀ q,u9.ownBlock=some q→w.heap.size≤q:=fun q e9=>by
        have h0:wr.ownsRow w.heap.size 98 4 u9 es.length (qA3 es):=HO3.out
        exact (h0.lt q e9).1
       have R1:Hid (qA4 w' w.heap.size v' (es++[⟨e,(k:Int),p,f⟩])):=qV4 (x:=⟨e,(k:Int),p,f⟩) hown'
       have R2:Hid (Below w.heap.size w w'):=QC0 (HO3.out.below B0) (HNX3.out.alloc hsw _) hgrow (by simp;omega)
       have R3:Hid (qH0 w' (some ⟨b,off,none⟩) n zs):=intIn_kept (HIA3.out.below B0) hgrow HAL.out hlt9
       have R4:Hid (w'.ownsRow w1.heap.size 2 1 (.slice (some ⟨gl,0,none⟩) L.length cl) L.length (L.map (Value.int .i64))):=World.ownsRow.kept (HIL3.out.alloc _) hgrow (.inr (fun q=>lk_apart HO3.out HIL3.out (by rw [← q];rfl)))
       have hnn':v' ≠ .slice none 0 0:=by first | exact hnil | simpa using hnil
       clear hown' hgrow hnil B0 hlt9
       go_wp2
       exact ⟨⟨m+1,by omega,by go_num,by rw [HP.out];exact R1.out,hnn',R2.out,R3.out,R4.out⟩,by simp [intOf];omega⟩
     ·have hlm':¬ ((m:Int) < (L.length:Int)):=by omega
      have HE:Hid (qB3 zs e f s (k+1)=qB3 zs e f s k++qG3 e f k (L.take m)):=by show qB3 zs e f s (k+1)=_;rw [HN.out,List.take_of_length_le (by omega)]
      go_wp2
      exact ⟨⟨k+1,by omega,by go_num,by rw [HE.out];exact HO3.out,HNN3.out,HNX3.out,HIA3.out,HIL3.out⟩,by simp [intOf];omega⟩
  ·have hkn:k=n:=by omega
   subst hkn
   obtain ⟨g,c,e9⟩:=HO.out.shape HNN.out
   subst e9
   go_wp2
   go_ret
   exact ⟨g,c,rfl,HO.out,HNX.out⟩

end Go.Proofs.YtlhgjackapdmbaaGreatDoor
