/- Contracts. -/
import Derived.Test.YthogdfnaojijhaaGreatPa20
import Derived.Test.YthogdfnaojijhaaGreatPa32
import Derived.Test.YthogdfnaojijhaaGreatPa40
import Derived.Lib.SlMapEqual
import Derived.Laws.IdiomRangeMap
import Derived.Test.YthogdfnaojijhaaGreatPa24
namespace Go.Proofs.YthogdfnaojijhaaGreat
set_option maxRecDepth 100000
set_option maxHeartbeats 8000000
open Go.RowKit
set_option linter.unusedVariables false
set_option linter.unusedSimpArgs false

theorem QA6 {m m':Nat} {c:qA3} (h:qB7 m c) (hm:m≤m'):qB7 m' c:=by
 obtain ⟨a1,a2,a3,a4⟩:=h
 exact ⟨by omega,by omega,fun k x e=>Nat.le_trans (a3 k x e) hm,by omega⟩
theorem QP4 (a:Option Addr) (n cap:Nat) (fs:List qA3) (l:Int) (w:World) (hn:n≤maxLen) (hle:∀ (k:Nat) c,fs[k]? = some c→qB7 maxLen c) (h0:0≤l) (h1:l≤1048576) (h:qB1 w a n fs) :
  Calls Tryz.prog 5 #[.slice a n cap,.int .i64 l] w fun e w'=>(∃ r:Int,e = .returned (.int .i64 r)∧r≤l∧(0≤r→(n:Int)≤l∧(∀ (k:Nat) c,fs[k]? = some c→qB7 l.toNat c)))∧Below w.heap.size w w':=by
 have H:Hid (qB1 w a n fs):=h
 have HZ:Hid (fs.length=n):=h.len
 have HLE:Hid (∀ (k:Nat) c,fs[k]? = some c→qB7 maxLen c):=hle
 have hn':(n:Int)≤9223372036854775807:=by unfold maxLen at hn;omega
 clear h hle hn
 by_cases hlt:(n:Int)≤l
 ·go_enter Tryz.func5,Tryz.ntmps5
  go_wp2
  go_loopw [1,5] (fun q i wr=>∃ (k:Nat) (r:Int),k≤n∧i = .int .i64 (k:Int)∧q = .int .i64 r∧0≤r∧r≤l∧(∀ j x,j < k→fs[j]? = some x→qB7 l.toNat x)∧Below w.heap.size w wr)
   (fun _ i _=>n - (intOf i).toNat)
  case atStart=>exact ⟨0,_,Nat.zero_le _,rfl,rfl,by omega,by omega,fun j x hj=>by omega,Below.refl _ _⟩
  case round =>
   obtain ⟨k,r,hk,rfl,rfl,hr0,hr1,hok,hnx⟩:=hrel
   have HOK:Hid (∀ j x,j < k→fs[j]? = some x→qB7 l.toNat x):=hok
   clear hok
   by_cases hkn:k < n
   ·obtain ⟨b,off,x,rfl,hs,hr,hci⟩:=H.out.at hkn
    have HS:Hid (fs[k]? = some x):=hs
    have hx:qB7 maxLen x:=HLE.out k x hs
    have HCI:Hid (qC9 wr x):=((H.out.below (hnx.mono (Nat.le_refl _))).each k x hs)
    have hb:b < w.heap.size:=hr.lt
    obtain ⟨c0,c1,c2,c3,c4⟩:=hr.below hnx
    clear hs hr hci
    have hkn':(k:Int) < (n:Int):=by omega
    go_wp2_with fail
    refine (QY1 x r _ hx hr0 (by omega) HCI.out).mono ?_
    rintro e w1 ⟨⟨r',rfl,hr'1,hr'2⟩,hb1⟩
    have hb01:Below w.heap.size w w1:=hnx.trans (hb1.mono hnx.size)
    by_cases hneg:r' < 0
    ·clear c0 c1 c2 c3 c4
     go_wp2
     go_ret
     exact ⟨⟨_,rfl,by omega,fun q=>by omega⟩,hb01⟩
    ·have HN:Hid (∀ j y,j < k+1→fs[j]? = some y→qB7 l.toNat y):=fun j y hj hy=>by
      by_cases e:j=k
      ·subst e
       rw [HS.out] at hy
       cases hy
       exact QA6 (hr'2 (by omega)) (by omega)
      ·exact HOK.out j y (by omega) hy
     have hge:0≤r':=by omega
     clear c0 c1 c2 c3 c4 hr'2
     go_wp2
     exact ⟨⟨k+1,r',by omega,by go_num,rfl,hge,by omega,HN.out,hb01⟩,by simp [intOf];omega⟩
   ·have hkn':k=n:=by omega
    subst hkn'
    have HQ:Hid (∀ (k:Nat) c,fs[k]? = some c→qB7 l.toNat c):=fun j x hj=>by
     have : j < k:=by
      by_cases q:j < k
      ·exact q
      ·rw [List.getElem?_eq_none (by rw [HZ.out];omega)] at hj;cases hj
     exact HOK.out j x this hj
    go_wp2
    go_ret
    exact ⟨⟨r,rfl,hr1,fun _=>⟨hlt,HQ.out⟩⟩,hnx⟩
 ·have hlt':l < (n:Int):=by omega
  go_enter Tryz.func5,Tryz.ntmps5
  go_wp2
  go_ret
  exact ⟨⟨_,rfl,by omega,fun q=>by omega⟩,by go_grown⟩

theorem Tryz.infoCf:(Tryz.prog.info? 72).map (fun i=>(i.zero,i.size,i.bytes))=some (some (.agg #[.int .i64 0,.int .i64 0,.slice none 0 0,.slice none 0 0,.slice none 0 0]),5,88):=by kernel_rfl
abbrev CPut (w:World) (B o:Nat) (d:qA3):World:=((((w.setCell ⟨B,o,none⟩ (.int .i64 d.e)).setCell ⟨B,o+1,none⟩ (.int .i64 d.f)).setCell ⟨B,o+2,none⟩ (.slice d.ra d.rn d.rc)).setCell ⟨B,o+3,none⟩ (.slice d.fa d.fn d.fc)).setCell ⟨B,o+4,none⟩ (.slice d.ca d.cn d.cc)
theorem CPut_other (w:World) (B o:Nat) (d:qA3) (q:Addr) (h:∀ j,j < 5→q≠⟨B,o+j,none⟩):(CPut w B o d).cell? q=w.cell? q:=by
 have h0:q≠⟨B,o,none⟩:=h 0 (by omega)
 unfold CPut
 rw [World.cell?_setCell_other (h:=fun e=>h 4 (by omega) e.symm),World.cell?_setCell_other (h:=fun e=>h 3 (by omega) e.symm),World.cell?_setCell_other (h:=fun e=>h 2 (by omega) e.symm),World.cell?_setCell_other (h:=fun e=>h 1 (by omega) e.symm),World.cell?_setCell_other (h:=fun e=>h0 e.symm)]
theorem CPut_at (w:World) (B o:Nat) (d:qA3) (h:∀ j,j < 5→∃ v,w.cell? ⟨B,o+j,none⟩=some v):qE2 (CPut w B o d) B o d:=by
 obtain ⟨v0,h0⟩:=h 0 (by omega)
 obtain ⟨v1,h1⟩:=h 1 (by omega)
 obtain ⟨v2,h2⟩:=h 2 (by omega)
 obtain ⟨v3,h3⟩:=h 3 (by omega)
 obtain ⟨v4,h4⟩:=h 4 (by omega)
 rw [Nat.add_zero] at h0
 unfold qE2 CPut
 refine ⟨?_,?_,?_,?_,?_⟩ <;> simp [go_sem,h0,h1,h2,h3,h4]
structure qE1 (w0 w:World) (n:Nat) (cs ds:List qA3) (k:Nat):Prop where
 ln:ds.length=k
 sm:∀ (j:Nat) c d,cs[j]? = some c→ds[j]? = some d→qD5 c d
 ca:∀ (j:Nat) d,ds[j]? = some d→qE2 w w0.heap.size (j * 5) d
 nw:∀ (j:Nat) d,ds[j]? = some d→CfN w (w0.heap.size+1) d
 rm:(∀ j,j < n * 5→∃ v,w.cell? ⟨w0.heap.size,j,none⟩=some v)∧∀ j,w.frozen? ⟨w0.heap.size,j,none⟩=false
 lt:w0.heap.size < w.heap.size
 bl:Below w0.heap.size w0 w
theorem qE1.below {w0 w w':World} {n:Nat} {cs ds:List qA3} {k:Nat} (h:qE1 w0 w n cs ds k) (hb:Below w.heap.size w w'):qE1 w0 w' n cs ds k :=
 ⟨h.ln,h.sm,fun j d e=>(h.ca j d e).below hb,fun j d e=>⟨(h.nw j d e).rd.below hb,(h.nw j d e).nw.below hb⟩,⟨fun j hj=>by obtain ⟨v,e⟩:=h.rm.1 j hj;exact ⟨v,(hb.cell (p:=⟨w0.heap.size,j,none⟩) h.lt).trans e⟩,fun j=>(hb.frozen (p:=⟨w0.heap.size,j,none⟩) h.lt).trans (h.rm.2 j)⟩,Nat.lt_of_lt_of_le h.lt hb.size,h.bl.trans (hb.mono h.bl.size)⟩
theorem qE1.put {w0 w:World} {n:Nat} {cs ds:List qA3} {k:Nat} (h:qE1 w0 w n cs ds k) (hk:k < n) {c d:qA3} (hc:cs[k]? = some c) (hs:qD5 c d) (hd:CfN w (w0.heap.size+1) d):qE1 w0 (CPut w w0.heap.size (k * 5) d) n cs (ds++[d]) (k+1):=by
 have hl:=h.ln
 have at1:∀ (j:Nat) x,(ds++[d])[j]? = some x→(j < k∧ds[j]? = some x)∨(j=k∧x=d):=fun j x e=>by
  by_cases hj:j < k
  ·rw [List.getElem?_append_left (by omega)] at e
   exact .inl ⟨hj,e⟩
  ·have hjk:j=k:=by
    have:=(List.getElem?_eq_some_iff.1 e).1
    simp at this
    omega
   subst hjk
   rw [← hl,List.getElem?_append_right (Nat.le_refl _),Nat.sub_self] at e
   simp at e
   exact .inr ⟨rfl,e.symm⟩
 have hg:w0.heap.size < w0.heap.size+1:=Nat.lt_succ_self _
 have keepN:∀ x,CfN w (w0.heap.size+1) x→CfN (CPut w w0.heap.size (k * 5) d) (w0.heap.size+1) x:=fun x hx=>((((hx.set hg).set hg).set hg).set hg).set hg
 refine ⟨by simp [hl],fun j c' x e1 e2=>?_,fun j x e=>?_,fun j x e=>?_,⟨fun j hj=>?_,fun j=>?_⟩,by simpa using h.lt,((((h.bl.setCell (Nat.le_refl _) _).setCell (Nat.le_refl _) _).setCell (Nat.le_refl _) _).setCell (Nat.le_refl _) _).setCell (Nat.le_refl _) _⟩
 ·rcases at1 j x e2 with ⟨_,q⟩ | ⟨rfl,rfl⟩
  ·exact h.sm j c' x e1 q
  ·rw [hc] at e1
   cases e1
   exact hs
 ·rcases at1 j x e with ⟨hj,q⟩ | ⟨rfl,rfl⟩
  ·obtain ⟨a0,a1,a2,a3,a4⟩:=h.ca j x q
   have o:∀ i,i < 5→(CPut w w0.heap.size (k * 5) d).cell? ⟨w0.heap.size,j * 5+i,none⟩=w.cell? ⟨w0.heap.size,j * 5+i,none⟩:=fun i hi=>CPut_other w _ _ d _ (fun i' hi' e=>by have:=congrArg Addr.off e;simp at this;omega)
   exact ⟨(o 0 (by omega)).trans a0,(o 1 (by omega)).trans a1,(o 2 (by omega)).trans a2,(o 3 (by omega)).trans a3,(o 4 (by omega)).trans a4⟩
  ·exact CPut_at w _ _ x (fun i hi=>h.rm.1 _ (by omega))
 ·rcases at1 j x e with ⟨_,q⟩ | ⟨rfl,rfl⟩
  ·exact keepN x (h.nw j x q)
  ·exact keepN x hd
 ·obtain ⟨v,e⟩:=h.rm.1 j hj
  have s1:∀ (W:World) (p:Addr) (u:Value) (q:Addr),(∃ v,W.cell? q=some v)→∃ v,(W.setCell p u).cell? q=some v:=fun W p u q ⟨v,e⟩=>by
   by_cases hp:q=p
   ·subst hp
    exact ⟨u,by simp [go_sem,e]⟩
   ·exact ⟨v,by rw [World.cell?_setCell_other (h:=fun e=>hp e.symm)];exact e⟩
  exact s1 _ _ _ _ (s1 _ _ _ _ (s1 _ _ _ _ (s1 _ _ _ _ (s1 _ _ _ _ ⟨v,e⟩))))
 ·unfold CPut
  simp only [World.frozen?_setCell]
  exact h.rm.2 j
theorem qS0 (a:Option Addr) (n cap:Nat) (cs:List qA3) (w:World) (hn:n≤1048576) (hle:∀ (k:Nat) c,cs[k]? = some c→qB7 1048576 c) (h:qB1 w a n cs) :
  Calls Tryz.prog 8 #[.slice a n cap] w fun e w'=>e = .returned (.slice (some ⟨w.heap.size,0,none⟩) n n)∧∃ ds,qE1 w w' n cs ds n:=by
 obtain ⟨i0,hi,hz0,hz1,hz2⟩:=info_parts Tryz.infoCf
 obtain ⟨wm,hmk,hownm,hgrm⟩:=run_make_full (P:=Tryz.prog) (w:=w) w.heap.size 38 72 i0 (.agg #[.int .i64 0,.int .i64 0,.slice none 0 0,.slice none 0 0,.slice none 0 0]) 5 Tryz.underlying38 hi hz0 hz1 .i64 .i64 n (by rw [hz2];omega) (by unfold maxLen;omega) (Nat.le_refl _)
 have H:Hid (qB1 w a n cs):=h
 have HLE:Hid (∀ (k:Nat) c,cs[k]? = some c→qB7 1048576 c):=hle
 clear h hle
 have HM:Hid (qE1 w wm n cs [] 0):=by
  refine ⟨rfl,fun j c d _ e=>by simp at e,fun j d e=>by simp at e,fun j d e=>by simp at e,⟨fun j hj=>?_,fun j=>hownm.frozenAt j⟩,(hownm.lt _ rfl).2,(Below.refl _ _).grown hgrm (Nat.le_refl _) (fun k e=>by cases e)⟩
  have hl:=hownm.1
  exact ⟨_,(hownm.cellAt j (by omega)).trans (List.getElem?_eq_getElem (by omega))⟩
 clear hownm hgrm
 have hn':(n:Int)≤1048576:=by omega
 go_enter Tryz.func8,Tryz.ntmps8
 go_wp2
 go_loopw [4] (fun i wr=>∃ (k:Nat) (ds:List qA3),k≤n∧i = .int .i64 (k:Int)∧Hid (qE1 w wr n cs ds k)) (fun i _=>n - (intOf i).toNat)
 case atStart=>exact ⟨0,[],Nat.zero_le _,rfl,HM⟩
 case round =>
  obtain ⟨k,ds,hk,rfl,HK⟩:=hrel
  by_cases hlt:k < n
  ·have hlt':(k:Int) < (n:Int):=by omega
   obtain ⟨b,off,c,rfl,hs,hr,hci⟩:=H.out.at hlt
   have HS:Hid (cs[k]? = some c):=hs
   have hb:b < wr.heap.size:=Nat.lt_of_lt_of_le hr.lt HK.out.bl.size
   have HCI:Hid (qC9 wr c):=hci.below HK.out.bl
   obtain ⟨c0,c1,c2,c3,c4⟩:=hr.below HK.out.bl
   have hx:=HLE.out k c hs
   clear hs hr hci
   go_wp2_with fail
   refine (QX8 c _ hx HCI.out).mono ?_
   rintro e w1 ⟨d,rfl,hsm,hdi,hdn,hb1⟩
   have K1:=HK.out.below hb1
   have K2:Hid (qE1 w (CPut w1 w.heap.size (k * 5) d) n cs (ds++[d]) (k+1)):=K1.put hlt HS.out hsm ⟨hdi,hdn.low (by have:=HK.out.lt;omega)⟩
   have hl1:=K1.lt
   obtain ⟨u0,e0⟩:=K1.rm.1 (k * 5) (by omega)
   obtain ⟨u1,e1⟩:=K1.rm.1 (k * 5+1) (by omega)
   obtain ⟨u2,e2⟩:=K1.rm.1 (k * 5+2) (by omega)
   obtain ⟨u3,e3⟩:=K1.rm.1 (k * 5+3) (by omega)
   obtain ⟨u4,e4⟩:=K1.rm.1 (k * 5+4) (by omega)
   have f0:=K1.rm.2 (k * 5)
   have f1:=K1.rm.2 (k * 5+1)
   have f2:=K1.rm.2 (k * 5+2)
   have f3:=K1.rm.2 (k * 5+3)
   have f4:=K1.rm.2 (k * 5+4)
   clear K1 hsm hdi hdn hb1 c0 c1 c2 c3 c4 HK
   go_wp2_with fail
   exact ⟨⟨k+1,ds++[d],by omega,by go_num,K2⟩,by simp [intOf];omega⟩
  ·have hkn:k=n:=by omega
   subst hkn
   go_wp2_with fail
   go_ret
   exact ⟨rfl,ds,HK.out⟩
theorem qE1.isIn {w0 w:World} {n:Nat} {cs ds:List qA3} (h:qE1 w0 w n cs ds n):qB1 w (some ⟨w0.heap.size,0,none⟩) n ds :=
 ⟨h.ln,fun _=>⟨_,0,rfl,fun k c e=>by rw [Nat.zero_add];exact h.ca k c e⟩,fun k c e=>(h.nw k c e).rd⟩
theorem QC6 (a b:Option Addr) (n ca cb:Nat) (cs ds:List qA3) (w:World) (hn:n≤1048576) (hle:∀ (k:Nat) c,cs[k]? = some c→qB7 1048576 c) (hs:∀ (j:Nat) c d,cs[j]? = some c→ds[j]? = some d→qD5 c d) (h:qB1 w a n cs) (h':qB1 w b n ds) :
  Calls Tryz.prog 13 #[.slice a n ca,.slice b n cb] w fun e w'=>e = .returned (.bool true)∧Below w.heap.size w w':=by
 have HA:Hid (qB1 w a n cs):=h
 have HB:Hid (qB1 w b n ds):=h'
 have HLE:Hid (∀ (k:Nat) c,cs[k]? = some c→qB7 1048576 c):=hle
 have HSM:Hid (∀ (j:Nat) c d,cs[j]? = some c→ds[j]? = some d→qD5 c d):=hs
 clear h h' hle hs
 have hn':(n:Int)≤1048576:=by omega
 go_enter Tryz.func13,Tryz.ntmps13
 go_wp2
 go_loopw [5] (fun i wr=>∃ k:Nat,k≤n∧i = .int .i64 (k:Int)∧Below w.heap.size w wr) (fun i _=>n - (intOf i).toNat)
 case atStart=>exact ⟨0,Nat.zero_le _,rfl,Below.refl _ _⟩
 case round =>
  obtain ⟨k,hk,rfl,hnx⟩:=hrel
  by_cases hlt:k < n
  ·obtain ⟨b1,o1,s,e1,hs1,hr1,hi1⟩:=HA.out.at hlt
   obtain ⟨b2,o2,s2,e2,hs2,hr2,hi2⟩:=HB.out.at hlt
   subst e1 e2
   have hb1:b1 < wr.heap.size:=Nat.lt_of_lt_of_le hr1.lt hnx.size
   have hb2:b2 < wr.heap.size:=Nat.lt_of_lt_of_le hr2.lt hnx.size
   obtain ⟨h0,h1,h2,h3,h4⟩:=hr1.below hnx
   obtain ⟨g0,g1,g2,g3,g4⟩:=hr2.below hnx
   have HEQ:Hid (∀ W,Below wr.heap.size wr W→Calls Tryz.prog 38 #[.agg #[.int .i64 s.e,.int .i64 s.f,.slice s.ra s.rn s.rc,.slice s.fa s.fn s.fc,.slice s.ca s.cn s.cc],.agg #[.int .i64 s2.e,.int .i64 s2.f,.slice s2.ra s2.rn s2.rc,.slice s2.fa s2.fn s2.fc,.slice s2.ca s2.cn s2.cc]] W fun e w'=>e = .returned (.bool true)∧Below W.heap.size W w'):=by
    have q1:=HLE.out k s hs1
    have q2:=HSM.out k s s2 hs1 hs2
    exact fun W hW=>QH8 s s2 W q1 q2 ((hi1.below hnx).below hW) ((hi2.below hnx).below hW)
   have hlt':(k:Int) < (n:Int):=by omega
   clear hr1 hr2 hi1 hi2 hs1 hs2
   go_wp2
   go_region_held3 (fun w'=>(∀ b o,b < wr.heap.size→w'.cell? ⟨b,o,none⟩=wr.cell? ⟨b,o,none⟩)∧Below wr.heap.size wr w') (first | exact hS | exact qB6 _)
    (first | (go_at_call 38;refine (HEQ.out _ (by first | exact hHeld.2 | exact (Below.refl _ _).drew)).mono ?_;rintro e w' ⟨rfl,hbz⟩;have hS:=qA8 (by assumption) hbz))
   go_wp2
   exact ⟨⟨k+1,by omega,by go_num,hnx.trans (hS.2.mono hnx.size)⟩,by simp [intOf];omega⟩
  ·have hkn:k=n:=by omega
   subst hkn
   go_wp2
   go_ret
   exact ⟨rfl,hnx⟩

def FormK (lo hi:Nat) (w:World) (x:qC6):Prop:=x.n≤1048576∧∃ g,x.a=some ⟨g,0,none⟩∧lo≤g∧g < hi∧QF4 w g (x.n * 5)
def QJ5 (lo hi:Nat) (w:World) (g n:Nat) (fs:List qC6):Prop:=fs.length=n∧∀ (k:Nat) (x:qC6),fs[k]? = some x→w.cell? ⟨g,k,none⟩=some (.slice x.a x.n x.cap)∧FormK lo hi w x

structure qE4 (cs ds:List qA3):Prop where
 ln:ds.length=cs.length
 sm:∀ (j:Nat) c d,cs[j]? = some c→ds[j]? = some d→qD5 c d
theorem code_same {c d:qA3} (h:qD5 c d):qO7 d=qO7 c:=by
 unfold qO7
 rw [h.e,h.f,h.zs,h.ps,h.cs]
theorem qE4.get {cs ds:List qA3} (h:qE4 cs ds) {j:Nat} {d:qA3} (e:ds[j]? = some d):∃ c,cs[j]? = some c∧qD5 c d:=by
 have hj:=(List.getElem?_eq_some_iff.1 e).1
 rw [h.ln] at hj
 exact ⟨_,List.getElem?_eq_getElem hj,h.sm j _ d (List.getElem?_eq_getElem hj) e⟩
theorem qE4.f0 {cs ds:List qA3} (h:qE4 cs ds):(ds[0]?.getD default).f=(cs[0]?.getD default).f:=by
 cases e:ds[0]? with
 | none =>
  have : ds.length≤0:=by simpa using e
  have e2:cs[0]? = none:=List.getElem?_eq_none (by rw [← h.ln];exact this)
  rw [e2]
 | some d =>
  obtain ⟨c,hc,hs⟩:=h.get e
  rw [hc]
  exact hs.f
theorem QK9 {cs ds:List qA3} (h:qE4 cs ds):∀ k,qE6 ds k=qE6 cs k
 | 0=>rfl
 | k+1=>by
  have ih:=QK9 h k
  show (if qE6 ds k=0 then (match ds[k]? with
   | none=>0
   | some c=>if qO7 c=0 then (if c.f=(ds[0]?.getD default).f then 0 else 1) else qO7 c) else qE6 ds k)=_
  rw [ih]
  by_cases q:qE6 cs k=0
  ·rw [if_pos q]
   cases e:ds[k]? with
   | none =>
    have : ds.length≤k:=by simpa using e
    have e2:cs[k]? = none:=List.getElem?_eq_none (by rw [← h.ln];exact this)
    rw [qE6,if_pos q,e2]
   | some d =>
    obtain ⟨c,hc,hs⟩:=h.get e
    rw [qR1 hc q]
    simp only
    rw [code_same hs,hs.f,h.f0]
  ·rw [if_neg q,qE6,if_neg q]
theorem qE4.cfs {cs ds:List qA3} (h:qE4 cs ds):qB5 ds=qB5 cs:=by
 unfold qB5
 rw [h.ln,QK9 h]
theorem qE1.same {w0 w:World} {n:Nat} {cs ds:List qA3} (h:qE1 w0 w n cs ds n) (hc:cs.length=n):qE4 cs ds:=⟨h.ln.trans hc.symm,h.sm⟩
theorem qE1.le {w0 w wA:World} {a:Option Addr} {n:Nat} {cs ds:List qA3} (h:qE1 w0 w n cs ds n) (hn:n≤1048576) (hi:qB1 wA a n cs) (hl:∀ (k:Nat) c,cs[k]? = some c→qB7 1048576 c):qH4 1048576 ds:=by
 have hS:=h.same hi.len
 refine ⟨fun k d e=>?_,fun k d e=>?_⟩
 ·obtain ⟨c,hc,hs⟩:=hS.get e
  exact hs.le (hi.each k c hc) (h.nw k d e).rd (hl k c hc)
 ·obtain ⟨c,hc,hs⟩:=hS.get e
  have q:=(h.nw k d e).nw.rules.1
  have hl2:=(hs.le (hi.each k c hc) (h.nw k d e).rd (hl k c hc)).rules
  refine ⟨(h.nw k d e).nw.cap,?_⟩
  rw [q]
  unfold maxLen
  omega
theorem QY7 {cs ds es:List qA3} (h:qE4 cs ds) (g:qE4 cs es):∀ (j:Nat) c d,ds[j]? = some c→es[j]? = some d→qD5 c d:=fun j c d e1 e2=>by
 obtain ⟨x,hx,hs⟩:=h.get e1
 exact hs.trans (g.sm j x d hx e2)

section
open Go.RowKit Go.Maps
theorem l3AllW_c (a:Option Addr) (n cap:Nat) (zs:List qA0) (gs:List GrI) (w:World) (h:qA4 w a n zs) (hc:qA7 zs=0) (hg:QD0 zs gs) :
  Calls Tryz.prog 127 #[.slice a n cap] w fun e w'=>∃ g l cap',e = .returned (.slice (some ⟨g,0,none⟩) l cap')∧qS7 w' (some ⟨g,0,none⟩) l gs∧l≤40∧Below w.heap.size w w':=by
 refine (l3All_c a n cap zs w h (by have:=pol_n16 h.1 hc;omega) (pol_ok hc).2).mono ?_
 rintro e w' ⟨g,l,cap',gs',rfl,h1,h2,h3,h4,hb⟩
 obtain rfl:=QB3 h2 hg
 exact ⟨g,l,cap',rfl,h4.read h1,by have:=QD3 hg.sg;omega,hb⟩
end

theorem Tryz.info4:(Tryz.prog.info? 4).map (fun i=>(i.zero,i.size,i.bytes))=some (some (.bool false),1,1):=by kernel_rfl
theorem Tryz.info158:(Tryz.prog.info? 158).map (fun i=>(i.zero,i.size,i.bytes))=some (some (.slice none 0 0),1,24):=by kernel_rfl
def qP9 (w:World) (g:Nat) (T:TS):Prop:=∀ x,x < 256→w.cell? ⟨g,x,none⟩=some (.bool (T x))
theorem qP9.lt {w:World} {g:Nat} {T:TS} (h:qP9 w g T):g < w.heap.size:=zL w ⟨g,0,none⟩ (h 0 (by omega))
theorem qP9.below {w w':World} {g:Nat} {T:TS} (h:qP9 w g T) (hb:Below w.heap.size w w'):qP9 w' g T:=fun x hx=>(hb.cell (p:=⟨g,x,none⟩) h.lt).trans (h x hx)
theorem qP9.kept {w w':World} {g:Nat} {T:TS} {row:Option Nat} (h:qP9 w g T) (hg:w.grownBy w' row) (hne:some g≠row):qP9 w' g T:=fun x hx=>hg.cell (h x hx) hne
theorem qP9.put {w:World} {g:Nat} {T:TS} (h:qP9 w g T) {i:Nat} (hi:i < 256):qP9 (w.setCell ⟨g,i,none⟩ (.bool true)) g (qX3 T i):=fun x hx=>by
 unfold qX3
 by_cases e:x=i
 ·subst e
  rw [if_pos rfl]
  simp [go_sem,h x hx]
 ·rw [if_neg e,World.cell?_setCell_other (h:=fun q=>e (by have:=congrArg Addr.off q;simp at this;omega))]
  exact h x hx
theorem qP9.ext {w:World} {g:Nat} {T U:TS} (h:qP9 w g T) (e:∀ x,x < 256→T x=U x):qP9 w g U:=fun x hx=>by rw [← e x hx];exact h x hx
def slV (g:Nat):Value:=.slice (some ⟨g,0,none⟩) 256 256
structure L4 (W:World) (ts:List TS) (gsl:List Nat) (v:Value) (wr:World):Prop where
 ow:wr.ownsRow W.heap.size 158 1 v ts.length (gsl.map slV)
 ln:gsl.length=ts.length
 rw:∀ (i g:Nat) (T:TS),gsl[i]? = some g→ts[i]? = some T→qP9 wr g T
 ne:∀ g∈gsl,v.ownBlock≠some g
 bl:Below W.heap.size W wr
 vn:v ≠ .slice none 0 0
theorem L4.below {W:World} {ts:List TS} {gsl:List Nat} {v:Value} {wr wr':World} (h:L4 W ts gsl v wr) (hb:Below wr.heap.size wr wr'):L4 W ts gsl v wr':=by
 refine ⟨?_,h.ln,fun i g T e1 e2=>(h.rw i g T e1 e2).below hb,h.ne,h.bl.trans (hb.mono h.bl.size),h.vn⟩
 exact h.ow.kept (row:=none) ⟨hb.os,hb.tape,hb.output,hb.size,fun k hk _=>hb.block k hk⟩ (by rcases h.ow.2 with ⟨e,_⟩ | ⟨g,cap,cur,e,_⟩;exact .inl (by rw [e];rfl);exact .inr (by rw [e];simp [Value.ownBlock]))
theorem L4.shape {W:World} {ts:List TS} {gsl:List Nat} {v:Value} {wr:World} (h:L4 W ts gsl v wr):∃ b cap,v = .slice (some ⟨b,0,none⟩) ts.length cap:=by
 rcases h.ow.2 with ⟨e,_⟩ | ⟨g,cap,cur,e,_⟩
 ·exact absurd e h.vn
 ·exact ⟨g,cap,e⟩
theorem L4.at {W:World} {ts:List TS} {gsl:List Nat} {b n cap:Nat} {wr:World} (h:L4 W ts gsl (.slice (some ⟨b,0,none⟩) n cap) wr) {i:Nat} {T:TS} (e:ts[i]? = some T):∃ g,wr.cell? ⟨b,i,none⟩=some (.slice (some ⟨g,0,none⟩) 256 256)∧qP9 wr g T∧gsl[i]? = some g:=by
 have hi:i < ts.length:=by
  by_cases q:i < ts.length
  ·exact q
  ·rw [List.getElem?_eq_none (by omega)] at e;cases e
 have hg:gsl[i]? = some (gsl[i]'(by rw [h.ln];exact hi)):=List.getElem?_eq_getElem _
 refine ⟨_,?_,h.rw i _ T hg e,hg⟩
 obtain rfl:n=ts.length:=by
  rcases h.ow.2 with ⟨e',_⟩ | ⟨g,cap',cur,e',_⟩
  ·exact absurd e' h.vn
  ·simp at e';exact e'.2.1
 rw [h.ow.cellAt i (by omega),List.getElem?_map,hg]
 rfl
theorem L4.next {W:World} {ts:List TS} {gsl:List Nat} {v v':Value} {wr w':World} {o:Obj} {h:Nat} {T:TS} (H:L4 W ts gsl v wr) (hT:qP9 wr h T) (hv:v.ownBlock≠some h) (hown':w'.ownsRow W.heap.size 158 1 v' (ts.length+1) (gsl.map slV++[slV h])) (hgrow:(wr.alloc o).grownBy w' v.ownBlock) (hn:v' ≠ .slice none 0 0) :
  L4 W (ts++[T]) (gsl++[h]) v' w':=by
 have A1:Below wr.heap.size wr (wr.alloc o):=zN
 have rows:∀ (i g:Nat) (U:TS),(gsl++[h])[i]? = some g→(ts++[T])[i]? = some U→qP9 w' g U:=by
  intro i g U e1 e2
  by_cases hi:i < gsl.length
  ·rw [List.getElem?_append_left hi] at e1
   rw [List.getElem?_append_left (by rw [← H.ln];exact hi)] at e2
   exact ((H.rw i g U e1 e2).below A1).kept hgrow (fun e=>H.ne g (List.mem_of_getElem? e1) e.symm)
  ·have hil:i=gsl.length:=by
    by_cases q:i < (gsl++[h]).length
    ·simp at q;omega
    ·rw [List.getElem?_eq_none (by omega)] at e1;cases e1
   subst hil
   rw [List.getElem?_append_right (Nat.le_refl _),Nat.sub_self] at e1
   rw [H.ln,List.getElem?_append_right (Nat.le_refl _),Nat.sub_self] at e2
   simp at e1 e2
   subst e1 e2
   exact (hT.below A1).kept hgrow (fun e=>hv e.symm)
 refine ⟨by simpa using hown',by simp [H.ln],rows,fun g hg e=>?_,(H.bl.alloc H.bl.size o).grown hgrow (by have:=H.bl.size;simp;omega) (fun j hj=>(H.ow.lt j hj).1),hn⟩
 obtain ⟨i,hi⟩:=List.mem_iff_getElem?.1 hg
 have hil:i < (gsl++[h]).length:=by
  by_cases q:i < (gsl++[h]).length
  ·exact q
  ·rw [List.getElem?_eq_none (by omega)] at hi;cases hi
 obtain ⟨u,hu⟩:∃ u,(ts++[T])[i]? = some u:=⟨_,List.getElem?_eq_getElem (by simp at hil ⊢;have:=H.ln;omega)⟩
 have hr:=rows i g u hi hu 0 (by omega)
 clear rows hu hi
 rcases hown'.2 with ⟨e0,_⟩ | ⟨b,cap,cur,e0,_⟩
 ·exact hn e0
 ·rw [e0] at e hown'
  simp [Value.ownBlock] at e
  subst e
  have hc:=hown'.cellAt 0 (by omega)
  rw [hr] at hc
  cases hgl:gsl with
  | nil=>rw [hgl] at hc;simp [slV] at hc
  | cons x xs=>rw [hgl] at hc;simp [slV] at hc
theorem make_row (w:World):∃ wm,(Instr.makeSlice 158 (.int .i64 256) (.int .i64 256)).run Tryz.prog w = .ok (.slice (some ⟨w.heap.size,0,none⟩) 256 256) wm∧qP9 wm w.heap.size noT∧(∀ j,wm.frozen? ⟨w.heap.size,j,none⟩=false)∧w.heap.size < wm.heap.size∧Below w.heap.size w wm:=by
 obtain ⟨i0,hi,hz0,hz1,hz2⟩:=info_parts Tryz.info4
 obtain ⟨wm,hmk,hownm,hgrm⟩:=run_make_full (P:=Tryz.prog) (w:=w) w.heap.size 158 4 i0 (.bool false) 1 Tryz.underlying158 hi hz0 hz1 .i64 .i64 256 (by rw [hz2];omega) (by unfold maxLen;omega) (Nat.le_refl _)
 refine ⟨wm,hmk,fun x hx=>?_,fun j=>hownm.frozenAt j,(hownm.lt _ rfl).2,(Below.refl _ _).grown hgrm (Nat.le_refl _) (fun k e=>by cases e)⟩
 rw [hownm.cellAt x (by omega)]
 simp [madeCells,Value.cells,noT]
 exact ⟨x,by simp [hx],by simp [Nat.mod_one]⟩
theorem oneL_end (s:Int):(qA6 s 8).foldl (fun T p=>qX3 T (2 ^ (p - 1).toNat)) noT=oneT s:=by
 funext x
 rw [Bool.eq_iff_iff]
 unfold oneT
 rw [QU9,List.any_eq_true]
 constructor
 ·rintro (q | ⟨p,hp,e⟩)
  ·cases q
  ·obtain ⟨h0,h1,h2⟩:=qF2.1 hp
   refine ⟨(p - 1).toNat,List.mem_range.2 (by omega),?_⟩
   rw [Bool.and_eq_true]
   refine ⟨by simp [e],?_⟩
   rw [show (((p - 1).toNat:Nat):Int)+1=p by omega]
   exact h2
 ·rintro ⟨p,hp,e⟩
  rw [Bool.and_eq_true] at e
  have hp:=List.mem_range.1 hp
  exact .inr ⟨(p:Int)+1,qF2.2 ⟨by omega,by omega,e.2⟩,by simpa using e.1⟩
theorem l4Sets_c (a:Option Addr) (n cap:Nat) (zs:List qA0) (a':Option Addr) (m cap':Nat) (ps:List qB3) (gs:List GrI) (w:World) (h:qA4 w a n zs) (hc:qA7 zs=0) (hg:QD0 zs gs) (hp:qA9 w a' m ps) (hpc:qH0 ps=0) :
  Calls Tryz.prog 94 #[.slice a n cap,.slice a' m cap'] w fun e w'=>∃ g,e = .returned (.slice (some ⟨g,0,none⟩) 256 256)∧qP9 w' g (qK8 (ofG gs) ps)∧Below w.heap.size w w':=by
 have hm8:m≤8:=by have:=(QD9 hpc).2.1;have:=hp.1;omega
 have hm1:1≤m:=by have:=(QD9 hpc).1;have:=hp.1;omega
 have HP:Hid (qA9 w a' m ps):=hp
 have HPA:Hid (∀ k x,ps[k]? = some x→qE5 k x=0):=(QD9 hpc).2.2
 have HST:Hid (∀ q,qF4 (ofG gs q)):=fun q=>qQ3 hg.sg q
 have HA:Hid (Calls Tryz.prog 127 #[.slice a n cap] w fun e w'=>∃ g l cap',e = .returned (.slice (some ⟨g,0,none⟩) l cap')∧qS7 w' (some ⟨g,0,none⟩) l gs∧l≤40∧Below w.heap.size w w'):=l3AllW_c a n cap zs gs w h hc hg
 obtain ⟨i0,hi,hz0,hz1,hz2⟩:=info_parts Tryz.info158
 clear h hp hc hg hpc
 go_enter Tryz.func94,Tryz.ntmps94
 go_wp2_with fail
 refine (HA.out).mono ?_
 rintro e W ⟨gg,lg,cg,rfl,hgr,hlg,hbW⟩
 have HGr:Hid (qS7 W (some ⟨gg,0,none⟩) lg gs):=hgr
 have HPW:Hid (qA9 W a' m ps):=HP.out.below hbW
 have HL0:Hid (L4 W [] [] (.slice (some ⟨W.heap.size,0,none⟩) 0 0) (W.alloc (.cells #[] 158))):=⟨World.ownsRow_lit W #[] 0 (Nat.le_refl _) (Nat.zero_le _) rfl,rfl,fun i g T e=>by simp at e,fun g hg=>by simp at hg,zN,by simp⟩
 clear hgr HA HP
 go_wp2_with fail
 have hmm:(m:Int)≤8:=by omega
 go_loopw [6,7] (fun v i wr=>∃ (k:Nat) (gsl:List Nat),k≤m∧i = .int .i64 (k:Int)∧Hid (L4 W (qA5 (ofG gs) ps k) gsl v wr)) (fun _ i _=>m - (intOf i).toNat)
 case atStart=>exact ⟨0,[],Nat.zero_le _,rfl,HL0⟩
 case round =>
  obtain ⟨k,gsl,hk,rfl,HT⟩:=hrel
  have hkl:(qA5 (ofG gs) ps k).length=k:=qK7 _ ps k (by have:=HPW.out.1;omega)
  obtain ⟨vb,vc,hve⟩:=HT.out.shape
  rw [hkl] at hve
  subst hve
  by_cases hlt:k < m
  ·obtain ⟨pg,off,x,ea,hx,hpa⟩:=HPW.out.at hlt
   subst ea
   have HX:Hid (ps[k]? = some x):=hx
   have h0:qE5 k x=0:=HPA.out k x hx
   obtain ⟨g0,g1,g2,g3,g4⟩:=hpa.below HT.out.bl
   clear hx hpa
   have hlt':(k:Int) < (m:Int):=by omega
   obtain ⟨X,hX⟩:∃ X,X=wr.alloc (.cells #[.int .i64 x.k,.int .i64 x.ro,.int .i64 x.rn,.int .i64 x.l,.int .i64 x.r] 193):=⟨_,rfl⟩
   have AX:Below wr.heap.size wr X:=by rw [hX];exact zN
   have hXs:X.heap.size=wr.heap.size+1:=by rw [hX];simp
   have hpx:qN9 X wr.heap.size 0 x:=by rw [hX];simp [qN9]
   obtain ⟨Y,hmk,hY,hfY,hsY,hbY⟩:=make_row X
   have HPX:Hid (qN9 Y wr.heap.size 0 x):=hpx.below hbY
   have HPX0:Hid (qN9 X wr.heap.size 0 x):=hpx
   clear hpx
   have HTX:Hid (L4 W (qA5 (ofG gs) ps k) gsl (.slice (some ⟨vb,0,none⟩) k vc) X):=HT.out.below AX
   have HRY:Hid (qP9 Y X.heap.size noT∧∀ j,Y.frozen? ⟨X.heap.size,j,none⟩=false):=⟨hY,hfY⟩
   have hvX:vb < X.heap.size:=(HTX.out.ow.lt vb rfl).2
   clear hY hfY AX
   have HE:Hid (qA5 (ofG gs) ps (k+1)=qA5 (ofG gs) ps k++[qJ3 (ofG gs) (qA5 (ofG gs) ps k) x]):=by rw [qL6 HX.out];trivial
   rw [hX] at hmk
   go_upto_region 8 with fail
   clear hmk hX g0 g1 g2 g3 g4
   have HTY:Hid (L4 W (qA5 (ofG gs) ps k) gsl (.slice (some ⟨vb,0,none⟩) k vc) Y):=HTX.out.below hbY
   have HGY:Hid (qS7 Y (some ⟨gg,0,none⟩) lg gs):=HGr.out.below HTY.out.bl
   obtain ⟨q,hq0⟩:∃ q,q=wr.heap.size+1:=⟨_,rfl⟩
   have hq:q=X.heap.size:=by omega
   obtain ⟨P,hPq⟩:∃ P,P=wr.heap.size:=⟨_,rfl⟩
   have hPl:P < q:=by omega
   have hvq:(Value.slice (some ⟨vb,0,none⟩) k vc).ownBlock≠some q:=by simp [Value.ownBlock];omega
   rw [← hq] at HRY hsY
   rw [← hq0]
   rw [← hPq] at HPX HPX0 ⊢
   have hvl:vb < q:=by omega
   have hgl:∀ (i g:Nat),gsl[i]? = some g→g < q:=fun i g e=>by
    obtain ⟨u,hu⟩:∃ u,(qA5 (ofG gs) ps k)[i]? = some u:=⟨_,List.getElem?_eq_getElem (by
     have:=HTX.out.ln
     by_cases qq:i < gsl.length
     ·omega
     ·rw [List.getElem?_eq_none (by omega)] at e;cases e)⟩
    have:=(HTX.out.rw i g u e hu).lt
    omega
   have HGL:Hid (∀ (i g:Nat),gsl[i]? = some g→g < q):=hgl
   have HYX:Hid (Below q X Y):=by rw [hq];exact hbY
   have HXQ:Hid (q=X.heap.size):=hq
   clear hgl hPq hbY HT hq hq0 hXs hvX
   obtain ⟨p0,p1,p2,p3,p4⟩:=HPX.out
   simp only [Nat.zero_add] at p0 p1 p2 p3 p4
   by_cases ek:x.k=1
   ·have b1:(x.k==1)=true:=by simp [ek]
    obtain ⟨v,hv⟩:∃ v,v=ofG gs (x.ro,x.rn):=⟨_,rfl⟩
    have hvs:qF4 v:=by rw [hv];exact HST.out _
    have HO:Hid (qJ3 (ofG gs) (qA5 (ofG gs) ps k) x=oneT v):=by unfold qJ3;rw [if_pos ek,hv];trivial
    clear ek h0
    go_wp2_with fail
    refine (qZ6 _ _ _ gs (x.ro,x.rn) _ HGY.out (by omega)).mono ?_
    rintro e Z1 ⟨rfl,hz1'⟩
    rw [← hv]
    clear hv
    go_wp2_with fail
    refine (QV7 v hvs.1 hvs.2 _).mono ?_
    rintro e Z ⟨lg1,lc1,rfl,hown,hz2'⟩
    have hbZ:Below Y.heap.size Y Z:=hz1'.trans (hz2'.mono hz1'.size)
    have HLr:Hid (RowIn Z (some ⟨lg1,0,none⟩) (qA6 v 8).length (qA6 v 8)):=QP9 hown
    have hlq:q < lg1:=by have:=(hown.lt lg1 rfl).1;have:=hz1'.size;omega
    have HRZ:Hid (qP9 Z q noT∧∀ j,Z.frozen? ⟨q,j,none⟩=false):=⟨HRY.out.1.below hbZ,fun j=>(hbZ.frozen (p:=⟨q,j,none⟩) HRY.out.1.lt).trans (HRY.out.2 j)⟩
    have HBZ:Hid (Below q X Z):=HYX.out.trans (hbZ.mono (by have:=HYX.out.size;omega))
    obtain ⟨ll,hll⟩:∃ ll,ll=qA6 v 8:=⟨_,rfl⟩
    have HLL:Hid (ll=qA6 v 8):=hll
    have hll8:ll.length≤8:=by rw [hll];exact QL7 v 8
    rw [← hll] at HLr ⊢
    clear hown hz1' hz2' hbZ HTY HGY HRY HYX hll p0 p1 p2 p3 p4 HPX
    have hll':(ll.length:Int)≤8:=by omega
    go_wp2_with fail
    go_loopw [11] (fun i wj=>∃ (j:Nat) (T:TS),j≤ll.length∧i = .int .i64 (j:Int)∧Hid ((qP9 wj q T∧∀ o,wj.frozen? ⟨q,o,none⟩=false)∧RowIn wj (some ⟨lg1,0,none⟩) ll.length ll∧Below q X wj∧T=(ll.take j).foldl (fun T p=>qX3 T (2 ^ (p - 1).toNat)) noT)) (fun i _=>ll.length - (intOf i).toNat)
    case atStart=>exact ⟨0,noT,Nat.zero_le _,rfl,HRZ.out,HLr.out,HBZ.out,by simp⟩
    case round =>
     obtain ⟨j,T,hj,rfl,HJ⟩:=hrel
     by_cases hjl:j < ll.length
     ·obtain ⟨⟨hrow,hfro⟩,hli,hbj,hT⟩:=HJ.out
      obtain ⟨lb,lo,le,lc⟩:=hli.2 j hjl
      cases le
      simp only [Nat.zero_add] at lc
      obtain ⟨y,hy⟩:∃ y,y=ll[j]?.getD 0:=⟨_,rfl⟩
      rw [← hy] at lc
      have hyj:ll[j]? = some y:=by rw [hy,List.getElem?_eq_getElem hjl];rfl
      have hym:1≤y∧y≤8:=by
       have:=List.mem_of_getElem? hyj
       rw [HLL.out] at this
       obtain ⟨u1,u2,_⟩:=qF2.1 this
       exact ⟨u1,by omega⟩
      obtain ⟨z,hz⟩:∃ z,z=2 ^ (y - 1).toNat:=⟨_,rfl⟩
      have hz256:z < 256:=by rw [hz];exact Nat.pow_lt_pow_right (by omega) (show (y - 1).toNat < 8 by omega)
      have hbz:bitI y=(z:Int):=by rw [hz];rfl
      have cz:wr.cell? ⟨q,z,none⟩=some (.bool (T z)):=hrow z hz256
      have fz:=hfro z
      have hz':(z:Int) < 256:=by omega
      have hjl':(j:Int) < (ll.length:Int):=by omega
      have HJ2:Hid ((qP9 (wr.setCell ⟨q,z,none⟩ (.bool true)) q (qX3 T z)∧∀ o,(wr.setCell ⟨q,z,none⟩ (.bool true)).frozen? ⟨q,o,none⟩=false)∧RowIn (wr.setCell ⟨q,z,none⟩ (.bool true)) (some ⟨lg1,0,none⟩) ll.length ll∧Below q X (wr.setCell ⟨q,z,none⟩ (.bool true))∧qX3 T z=(ll.take (j+1)).foldl (fun T p=>qX3 T (2 ^ (p - 1).toNat)) noT):=by
       refine ⟨⟨hrow.put hz256,fun o=>by rw [World.frozen?_setCell];exact hfro o⟩,⟨hli.1,fun i hi'=>?_⟩,hbj.setCell (p:=⟨q,z,none⟩) (Nat.le_refl _) _,?_⟩
       ·obtain ⟨b2,o2,e2,c2⟩:=hli.2 i hi'
        cases e2
        exact ⟨lg1,0,rfl,by rw [World.cell?_setCell_other (h:=fun e=>by have:=congrArg Addr.block e;simp at this;omega)];exact c2⟩
       ·rw [hT,List.take_add_one,hyj];simp [List.foldl_append,hz]
      clear HJ hrow hfro hli hbj hT hy hyj hz
      go_wp2_with (first | (go_at_call 130;refine (l1Bit_c y hym.1 hym.2 _).mono ?_;rintro e wb ⟨rfl,rfl⟩;rw [hbz]) | fail)
      exact ⟨⟨j+1,qX3 T z,by omega,by go_num,HJ2⟩,by simp [intOf];omega⟩
     ·have hje:j=ll.length:=by omega
      subst hje
      obtain ⟨V,hV⟩:∃ V,V=wr:=⟨_,rfl⟩
      rw [← hV] at HJ ⊢
      have HLV:Hid (L4 W (qA5 (ofG gs) ps k) gsl (.slice (some ⟨vb,0,none⟩) k vc) V):=HTX.out.below (by rw [← HXQ.out];exact HJ.out.2.2.1)
      have HRV:Hid (qP9 V q (oneT v)):=by
       obtain ⟨⟨hrow,_⟩,_,_,hT⟩:=HJ.out
       rw [List.take_length,HLL.out,oneL_end] at hT
       rw [← hT];exact hrow
      clear HJ hV
      go_wp2_with (first
       | (at_builtin;refine wpList_append_own _ rfl _ _ 196 rfl W.heap.size 158 i0 (.slice none 0 0) 1 24 Tryz.underlying196 hi hz0 hz1 hz2 rfl (by decide) _ _ _ rfl (HLV.out.ow.alloc _) ⟨V.heap.size,0,none⟩ 1 1 [slV q] rfl rfl ?c1 ?c2 ?c3 ?c4 ?c5 ?_)
       | fail)
      case c1 =>
       intro j u hj
       match j,hj with
       | 0,hj=>simp at hj;subst hj;simp [Addr.add,slV]
      case c2=>intro u hu;simp at hu;subst hu;rfl
      case c3=>rw [hkl];unfold maxLen;omega
      case c4=>rw [hkl];omega
      case c5=>have:=HLV.out.bl.size;simp;omega
      intro v' w9 hown' hgrow hnil
      have hnn':v' ≠ .slice none 0 0:=hnil
      have HN:Hid (L4 W (qA5 (ofG gs) ps (k+1)) (gsl++[q]) v' w9):=by rw [HE.out,HO.out];exact HLV.out.next HRV.out hvq (by rw [hkl];exact hown') hgrow hnn'
      clear hnil hown' hgrow hnn'
      go_wp2_with fail
      exact ⟨⟨k+1,gsl++[q],by omega,by go_num,HN⟩,by simp [intOf];omega⟩
   ·have b1:(x.k==1)=false:=by simp [ek]
    obtain ⟨l,r,hl,hr,hxl,hxr,hk23⟩:∃ l r:Nat,l < k∧r < k∧x.l=(l:Int)∧x.r=(r:Int)∧(x.k=2∨x.k=3):=by
     unfold qE5 at h0
     by_cases qk:1≤x.k∧x.k≤3
     ·rw [if_neg (by omega),if_neg ek] at h0
      split at h0
      ·cases h0
      ·split at h0
       ·cases h0
       ·rename_i q1
        split at h0
        ·cases h0
        ·rename_i q2
         exact ⟨x.l.toNat,x.r.toNat,by omega,by omega,by omega,by omega,by omega⟩
     ·rw [if_pos qk] at h0;cases h0
    obtain ⟨L,hL⟩:∃ L,(qA5 (ofG gs) ps k)[l]? = some L:=⟨_,List.getElem?_eq_getElem (by omega)⟩
    obtain ⟨R,hR⟩:∃ R,(qA5 (ofG gs) ps k)[r]? = some R:=⟨_,List.getElem?_eq_getElem (by omega)⟩
    obtain ⟨ap,hap⟩:∃ ap,decide (x.k=3)=ap:=⟨_,rfl⟩
    have HO:Hid (qJ3 (ofG gs) (qA5 (ofG gs) ps k) x=QC8 ap L R):=by
     unfold qJ3
     rw [if_neg ek,hxl,hxr,Int.toNat_natCast,Int.toNat_natCast,hL,hR,hap]
     trivial
    have hk2:(x.k==2) = !ap:=by
     rw [← hap]
     rcases hk23 with e | e <;> simp [e]
    obtain ⟨gl,cl,hrl,hgl1⟩:=HTX.out.at hL
    obtain ⟨gr',cr,hrr,hgr1⟩:=HTX.out.at hR
    have HK:Hid (∀ X':World,Below q X X'→(X'.cell? ⟨P,0,none⟩=some (.int .i64 x.k)∧X'.cell? ⟨P,3,none⟩=some (.int .i64 x.l)∧X'.cell? ⟨P,4,none⟩=some (.int .i64 x.r))∧(X'.cell? ⟨vb,l,none⟩=some (.slice (some ⟨gl,0,none⟩) 256 256)∧qP9 X' gl L)∧X'.cell? ⟨vb,r,none⟩=some (.slice (some ⟨gr',0,none⟩) 256 256)∧qP9 X' gr' R):=fun X' hb=>by
     obtain ⟨q0,_,_,q3,q4⟩:=HPX0.out
     simp only [Nat.zero_add] at q0 q3 q4
     rw [HXQ.out] at hb
     have kk:∀ (b o:Nat) (u:Value),X.cell? ⟨b,o,none⟩=some u→X'.cell? ⟨b,o,none⟩=some u:=fun b o u e=>(hb.cell (p:=⟨b,o,none⟩) (zL X ⟨b,o,none⟩ e)).trans e
     exact ⟨⟨kk _ _ _ q0,kk _ _ _ q3,kk _ _ _ q4⟩,⟨kk _ _ _ cl,hrl.below hb⟩,kk _ _ _ cr,hrr.below hb⟩
    have hl':(l:Int) < (k:Int):=by omega
    have hr':(r:Int) < (k:Int):=by omega
    clear ek h0 hL hR hap hk23 cl hrl cr hrr hgl1 hgr1 p0 p1 p2 p3 p4 HPX HPX0 HTY HGY
    have HST0:Hid ((qP9 Y q noT∧∀ j,Y.frozen? ⟨q,j,none⟩=false)∧Below q X Y):=⟨HRY.out,HYX.out⟩
    obtain ⟨y0,y3,y4⟩:=(HK.out Y HYX.out).1
    clear HRY HYX
    go_wp2_with fail
    clear y0 y3 y4
    go_loopw [12] (fun i wj=>∃ (c:Nat) (T:TS),c≤256∧i = .int .i64 (c:Int)∧Hid (((qP9 wj q T∧∀ j,wj.frozen? ⟨q,j,none⟩=false)∧Below q X wj)∧QJ7 ap L R c 0 T)) (fun i _=>256 - (intOf i).toNat)
    case atStart=>exact ⟨0,noT,by omega,rfl,HST0.out,QE9 ap L R⟩
    case round =>
     obtain ⟨c,T,hc,rfl,HC⟩:=hrel
     by_cases hcl:c < 256
     ·have hcl':(c:Int) < 256:=by omega
      obtain ⟨V0,hV0⟩:∃ V0,V0=wr:=⟨_,rfl⟩
      rw [← hV0] at HC ⊢
      clear hV0
      go_wp2_with fail
      go_loopw [13] (fun i wj=>∃ (d:Nat) (U:TS),d≤256∧i = .int .i64 (d:Int)∧Hid (((qP9 wj q U∧∀ j,wj.frozen? ⟨q,j,none⟩=false)∧Below q X wj)∧QJ7 ap L R c d U)) (fun i _=>256 - (intOf i).toNat)
      case atStart=>exact ⟨0,T,by omega,rfl,HC⟩
      case round =>
       obtain ⟨d,U,hd,rfl,HD⟩:=hrel
       obtain ⟨⟨y0,y3,y4⟩,⟨yl,hlr⟩,yr,hrr⟩:=HK.out wr HD.out.1.2
       by_cases hdl:d < 256
       ·have hdl':(d:Int) < 256:=by omega
        have cL:=hlr c hcl
        have cR:=hrr d hdl
        obtain ⟨lv,hlv⟩:∃ lv,L c=lv:=⟨_,rfl⟩
        have HLc:Hid (L c=lv):=hlv
        rw [hlv] at cL
        clear hlv hlr hrr
        cases lv
        ·have HN:Hid (((qP9 wr q U∧∀ j,wr.frozen? ⟨q,j,none⟩=false)∧Below q X wr)∧QJ7 ap L R (c+1) 0 U):=⟨HD.out.1,QO5 HD.out.2 HLc.out⟩
         go_wp2_with fail
         exact ⟨⟨c+1,U,by omega,by go_num,HN⟩,by simp [intOf];omega⟩
        ·obtain ⟨rv,hrv⟩:∃ rv,R d=rv:=⟨_,rfl⟩
         rw [hrv] at cR
         have hand:bits .and .i64 (c:Int) (d:Int)=((c &&& d:Nat):Int):=QB2 c d hcl hdl
         have hor:bits .or .i64 (c:Int) (d:Int)=((c ||| d:Nat):Int):=qT6 c d hcl hdl
         have hx256:c ||| d < 256:=Nat.or_lt_two_pow (n:=8) hcl hdl
         obtain ⟨qb,hqb⟩:∃ qb,((c &&& d) != 0)=qb:=⟨_,rfl⟩
         have hqb':((((c &&& d:Nat):Int))==0) = !qb:=by rw [← hqb];rw [Bool.eq_iff_iff];simp
         have hok:okAB ap c d = !(ap&&qb):=by unfold okAB;rw [hqb]
         have hn0:(R d&&okAB ap c d)=(rv && !(ap&&qb)):=by rw [hrv,hok]
         have HN0:Hid ((R d&&okAB ap c d)=(rv && !(ap&&qb))):=hn0
         obtain ⟨xx,hxx⟩:∃ xx,xx=c ||| d:=⟨_,rfl⟩
         have HXX:Hid (xx=c ||| d):=hxx
         rw [← hxx] at hor hx256
         have hx':(xx:Int) < 256:=by omega
         have cx:wr.cell? ⟨q,xx,none⟩=some (.bool (U xx)):=HD.out.1.1.1 xx hx256
         have fx:=HD.out.1.1.2 xx
         have HPut:Hid ((rv && !(ap&&qb))=true→((qP9 (wr.setCell ⟨q,xx,none⟩ (.bool true)) q (qX3 U xx)∧∀ j,(wr.setCell ⟨q,xx,none⟩ (.bool true)).frozen? ⟨q,j,none⟩=false)∧Below q X (wr.setCell ⟨q,xx,none⟩ (.bool true)))∧QJ7 ap L R c (d+1) (qX3 U xx)):=fun e =>
          ⟨⟨⟨HD.out.1.1.1.put hx256,fun j=>by rw [World.frozen?_setCell];exact HD.out.1.1.2 j⟩,HD.out.1.2.setCell (p:=⟨q,xx,none⟩) (Nat.le_refl _) _⟩,by rw [HXX.out];exact QI2 HD.out.2 hcl hdl HLc.out (HN0.out.trans e)⟩
         have HNo:Hid ((rv && !(ap&&qb))=false→((qP9 wr q U∧∀ j,wr.frozen? ⟨q,j,none⟩=false)∧Below q X wr)∧QJ7 ap L R c (d+1) U):=fun e=>⟨HD.out.1,QS6 HD.out.2 (HN0.out.trans e)⟩
         generalize hyy:((c &&& d:Nat):Int)=yy at hand hqb'
         clear hyy hrv hqb hok hn0 hxx HXX HN0 HD
         cases rv
         ·have HN:=HNo.out (by simp)
          have HN':Hid _:=HN
          clear HN HPut HNo
          go_wp2_with fail
          exact ⟨⟨d+1,U,by omega,by go_num,HN'⟩,by simp [intOf];omega⟩
         ·cases ap
          ·have HN:=HPut.out (by simp)
           have HN':Hid _:=HN
           clear HN HPut HNo
           go_wp2_with fail
           exact ⟨⟨d+1,qX3 U xx,by omega,by go_num,HN'⟩,by simp [intOf];omega⟩
          ·cases qb
           ·have HN:=HPut.out (by simp)
            have HN':Hid _:=HN
            clear HN HPut HNo
            go_wp2_with fail
            exact ⟨⟨d+1,qX3 U xx,by omega,by go_num,HN'⟩,by simp [intOf];omega⟩
           ·have HN:=HNo.out (by simp)
            have HN':Hid _:=HN
            clear HN HPut HNo
            go_wp2_with fail
            exact ⟨⟨d+1,U,by omega,by go_num,HN'⟩,by simp [intOf];omega⟩
       ·have hde:d=256:=by omega
        subst hde
        have HN:Hid (((qP9 wr q U∧∀ j,wr.frozen? ⟨q,j,none⟩=false)∧Below q X wr)∧QJ7 ap L R (c+1) 0 U):=⟨HD.out.1,QO6 HD.out.2⟩
        clear hlr hrr
        go_wp2_with fail
        exact ⟨⟨c+1,U,by omega,by go_num,HN⟩,by simp [intOf];omega⟩
     ·have hce:c=256:=by omega
      subst hce
      obtain ⟨V,hV⟩:∃ V,V=wr:=⟨_,rfl⟩
      rw [← hV] at HC ⊢
      have HLV:Hid (L4 W (qA5 (ofG gs) ps k) gsl (.slice (some ⟨vb,0,none⟩) k vc) V):=HTX.out.below (by rw [← HXQ.out];exact HC.out.1.2)
      have HRV:Hid (qP9 V q (QC8 ap L R)):=HC.out.1.1.1.ext (QW9 HC.out.2)
      clear HC hV
      go_wp2_with (first
       | (at_builtin;refine wpList_append_own _ rfl _ _ 196 rfl W.heap.size 158 i0 (.slice none 0 0) 1 24 Tryz.underlying196 hi hz0 hz1 hz2 rfl (by decide) _ _ _ rfl (HLV.out.ow.alloc _) ⟨V.heap.size,0,none⟩ 1 1 [slV q] rfl rfl ?c1 ?c2 ?c3 ?c4 ?c5 ?_)
       | fail)
      case c1 =>
       intro j u hj
       match j,hj with
       | 0,hj=>simp at hj;subst hj;simp [Addr.add,slV]
      case c2=>intro u hu;simp at hu;subst hu;rfl
      case c3=>rw [hkl];unfold maxLen;omega
      case c4=>rw [hkl];omega
      case c5=>have:=HLV.out.bl.size;simp;omega
      intro v' w9 hown' hgrow hnil
      have hnn':v' ≠ .slice none 0 0:=hnil
      have HN:Hid (L4 W (qA5 (ofG gs) ps (k+1)) (gsl++[q]) v' w9):=by rw [HE.out,HO.out];exact HLV.out.next HRV.out hvq (by rw [hkl];exact hown') hgrow hnn'
      clear hnil hown' hgrow hnn'
      go_wp2_with fail
      exact ⟨⟨k+1,gsl++[q],by omega,by go_num,HN⟩,by simp [intOf];omega⟩
  ·have hke:k=m:=by omega
   subst hke
   have hlast:(qA5 (ofG gs) ps k)[k - 1]? = some (qK8 (ofG gs) ps):=by
    unfold qK8
    rw [HPW.out.1,List.getElem?_eq_getElem (by omega)];rfl
   obtain ⟨gl,cl,hrl,_⟩:=HT.out.at hlast
   have HRL:Hid (qP9 wr gl (qK8 (ofG gs) ps)):=hrl
   have HBF:Hid (Below w.heap.size w wr):=hbW.trans (HT.out.bl.mono hbW.size)
   have hkm:((k:Int) - 1)=((k - 1:Nat):Int):=by omega
   have hk1:(((k - 1:Nat):Nat):Int) < (k:Int):=by omega
   obtain ⟨k1,hk1e⟩:∃ k1,k1=k - 1:=⟨_,rfl⟩
   rw [← hk1e] at cl hkm hk1
   clear hrl hlast hk1e
   go_wp2_with fail
   go_ret
   exact ⟨gl,rfl,HRL.out,HBF.out⟩

end Go.Proofs.YthogdfnaojijhaaGreat
