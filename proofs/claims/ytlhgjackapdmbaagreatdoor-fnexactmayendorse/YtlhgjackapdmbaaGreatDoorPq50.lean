/- Contracts. -/
import Derived.Test.YtlhgjackapdmbaaGreatDoorPq25
import Derived.Test.YtlhgjackapdmbaaGreatDoorPq49
namespace Go.Proofs.YtlhgjackapdmbaaGreatDoor
set_option maxRecDepth 100000
set_option maxHeartbeats 8000000
open Go.RowKit
set_option linter.unusedVariables false
set_option linter.unusedSimpArgs false

theorem QL7 {m m':Nat} {c:qA5} (h:qD4 m c) (hm:m≤m'):qD4 m' c:=by
 obtain ⟨a1,a2,a3,a4⟩:=h
 exact ⟨by omega,by omega,fun k x e=>Nat.le_trans (a3 k x e) hm,by omega⟩
theorem szConfigs_c (a:Option Addr) (n cap:Nat) (fs:List qA5) (l:Int) (w:World) (hn:n≤maxLen) (hle:∀ (k:Nat) c,fs[k]? = some c→qD4 maxLen c) (h0:0≤l) (h1:l≤1048576) (h:qA6 w a n fs) :
  Calls Tryz.prog 9 #[.slice a n cap,.int .i64 l] w fun e w'=>(∃ r:Int,e = .returned (.int .i64 r)∧r≤l∧(0≤r→(n:Int)≤l∧(∀ (k:Nat) c,fs[k]? = some c→qD4 l.toNat c)))∧Below w.heap.size w w':=by
 have H:Hid (qA6 w a n fs):=h
 have HZ:Hid (fs.length=n):=h.len
 have HLE:Hid (∀ (k:Nat) c,fs[k]? = some c→qD4 maxLen c):=hle
 have hn':(n:Int)≤9223372036854775807:=by unfold maxLen at hn;omega
 clear h hle hn
 by_cases hlt:(n:Int)≤l
 ·go_enter Tryz.func9,Tryz.ntmps9
  go_wp2
  go_loopw [1,5] (fun q i wr=>∃ (k:Nat) (r:Int),k≤n∧i = .int .i64 (k:Int)∧q = .int .i64 r∧0≤r∧r≤l∧(∀ j x,j < k→fs[j]? = some x→qD4 l.toNat x)∧Below w.heap.size w wr)
   (fun _ i _=>n - (intOf i).toNat)
  case atStart=>exact ⟨0,_,Nat.zero_le _,rfl,rfl,by omega,by omega,fun j x hj=>by omega,Below.refl _ _⟩
  case round =>
   obtain ⟨k,r,hk,rfl,rfl,hr0,hr1,hok,hnx⟩:=hrel
   have HOK:Hid (∀ j x,j < k→fs[j]? = some x→qD4 l.toNat x):=hok
   clear hok
   by_cases hkn:k < n
   ·obtain ⟨b,off,x,rfl,hs,hr,hci⟩:=H.out.at hkn
    have HS:Hid (fs[k]? = some x):=hs
    have hx:qD4 maxLen x:=HLE.out k x hs
    have HCI:Hid (qE8 wr x):=((H.out.below (hnx.mono (Nat.le_refl _))).each k x hs)
    have hb:b < w.heap.size:=hr.lt
    obtain ⟨c0,c1,c2,c3,c4⟩:=hr.below hnx
    clear hs hr hci
    have hkn':(k:Int) < (n:Int):=by omega
    go_wp2_with fail
    refine (szConfig_c x r _ hx hr0 (by omega) HCI.out).mono ?_
    rintro e w1 ⟨⟨r',rfl,hr'1,hr'2⟩,hb1⟩
    have hb01:Below w.heap.size w w1:=hnx.trans (hb1.mono hnx.size)
    by_cases hneg:r' < 0
    ·clear c0 c1 c2 c3 c4
     go_wp2
     go_ret
     exact ⟨⟨_,rfl,by omega,fun q=>by omega⟩,hb01⟩
    ·have HN:Hid (∀ j y,j < k+1→fs[j]? = some y→qD4 l.toNat y):=fun j y hj hy=>by
      by_cases e:j=k
      ·subst e
       rw [HS.out] at hy
       cases hy
       exact QL7 (hr'2 (by omega)) (by omega)
      ·exact HOK.out j y (by omega) hy
     have hge:0≤r':=by omega
     clear c0 c1 c2 c3 c4 hr'2
     go_wp2
     exact ⟨⟨k+1,r',by omega,by go_num,rfl,hge,by omega,HN.out,hb01⟩,by simp [intOf];omega⟩
   ·have hkn':k=n:=by omega
    subst hkn'
    have HQ:Hid (∀ (k:Nat) c,fs[k]? = some c→qD4 l.toNat c):=fun j x hj=>by
     have : j < k:=by
      by_cases q:j < k
      ·exact q
      ·rw [List.getElem?_eq_none (by rw [HZ.out];omega)] at hj;cases hj
     exact HOK.out j x this hj
    go_wp2
    go_ret
    exact ⟨⟨r,rfl,hr1,fun _=>⟨hlt,HQ.out⟩⟩,hnx⟩
 ·have hlt':l < (n:Int):=by omega
  go_enter Tryz.func9,Tryz.ntmps9
  go_wp2
  go_ret
  exact ⟨⟨_,rfl,by omega,fun q=>by omega⟩,by go_grown⟩

theorem Tryz.infoCf:(Tryz.prog.info? 71).map (fun i=>(i.zero,i.size,i.bytes))=some (some (.agg #[.int .i64 0,.int .i64 0,.slice none 0 0,.slice none 0 0,.slice none 0 0]),5,88):=by kernel_rfl
abbrev CPut (w:World) (B o:Nat) (d:qA5):World:=((((w.setCell ⟨B,o,none⟩ (.int .i64 d.e)).setCell ⟨B,o+1,none⟩ (.int .i64 d.f)).setCell ⟨B,o+2,none⟩ (.slice d.ra d.rn d.rc)).setCell ⟨B,o+3,none⟩ (.slice d.fa d.fn d.fc)).setCell ⟨B,o+4,none⟩ (.slice d.ca d.cn d.cc)
theorem CPut_other (w:World) (B o:Nat) (d:qA5) (q:Addr) (h:∀ j,j < 5→q≠⟨B,o+j,none⟩):(CPut w B o d).cell? q=w.cell? q:=by
 have h0:q≠⟨B,o,none⟩:=h 0 (by omega)
 unfold CPut
 rw [World.cell?_setCell_other (h:=fun e=>h 4 (by omega) e.symm),World.cell?_setCell_other (h:=fun e=>h 3 (by omega) e.symm),World.cell?_setCell_other (h:=fun e=>h 2 (by omega) e.symm),World.cell?_setCell_other (h:=fun e=>h 1 (by omega) e.symm),World.cell?_setCell_other (h:=fun e=>h0 e.symm)]
theorem CPut_at (w:World) (B o:Nat) (d:qA5) (h:∀ j,j < 5→∃ v,w.cell? ⟨B,o+j,none⟩=some v):qH8 (CPut w B o d) B o d:=by
 obtain ⟨v0,h0⟩:=h 0 (by omega)
 obtain ⟨v1,h1⟩:=h 1 (by omega)
 obtain ⟨v2,h2⟩:=h 2 (by omega)
 obtain ⟨v3,h3⟩:=h 3 (by omega)
 obtain ⟨v4,h4⟩:=h 4 (by omega)
 rw [Nat.add_zero] at h0
 unfold qH8 CPut
 refine ⟨?_,?_,?_,?_,?_⟩ <;> simp [go_sem,h0,h1,h2,h3,h4]
structure qK1 (w0 w:World) (n:Nat) (cs ds:List qA5) (k:Nat):Prop where
 ln:ds.length=k
 sm:∀ (j:Nat) c d,cs[j]? = some c→ds[j]? = some d→qH0 c d
 ca:∀ (j:Nat) d,ds[j]? = some d→qH8 w w0.heap.size (j * 5) d
 nw:∀ (j:Nat) d,ds[j]? = some d→CfN w (w0.heap.size+1) d
 rm:(∀ j,j < n * 5→∃ v,w.cell? ⟨w0.heap.size,j,none⟩=some v)∧∀ j,w.frozen? ⟨w0.heap.size,j,none⟩=false
 lt:w0.heap.size < w.heap.size
 bl:Below w0.heap.size w0 w
theorem qK1.below {w0 w w':World} {n:Nat} {cs ds:List qA5} {k:Nat} (h:qK1 w0 w n cs ds k) (hb:Below w.heap.size w w'):qK1 w0 w' n cs ds k :=
 ⟨h.ln,h.sm,fun j d e=>(h.ca j d e).below hb,fun j d e=>⟨(h.nw j d e).rd.below hb,(h.nw j d e).nw.below hb⟩,⟨fun j hj=>by obtain ⟨v,e⟩:=h.rm.1 j hj;exact ⟨v,(hb.cell (p:=⟨w0.heap.size,j,none⟩) h.lt).trans e⟩,fun j=>(hb.frozen (p:=⟨w0.heap.size,j,none⟩) h.lt).trans (h.rm.2 j)⟩,Nat.lt_of_lt_of_le h.lt hb.size,h.bl.trans (hb.mono h.bl.size)⟩
theorem qK1.put {w0 w:World} {n:Nat} {cs ds:List qA5} {k:Nat} (h:qK1 w0 w n cs ds k) (hk:k < n) {c d:qA5} (hc:cs[k]? = some c) (hs:qH0 c d) (hd:CfN w (w0.heap.size+1) d):qK1 w0 (CPut w w0.heap.size (k * 5) d) n cs (ds++[d]) (k+1):=by
 have hl:=h.ln
 have at1:∀ (j:Nat) x,(ds++[d])[j]? = some x→(j < k∧ds[j]? = some x)∨(j=k∧x=d):=fun j x e=>by
  by_cases hj:j < k
  ·rw [List.getElem?_append_left (by omega)] at e
   exact .inl ⟨hj,e⟩
  ·have hjk:j=k:=by
    have:=(List.getElem?_eq_some_iff.1 e).1
    simp at this
    omega
   subst hjk
   rw [← hl,List.getElem?_append_right (Nat.le_refl _),Nat.sub_self] at e
   simp at e
   exact .inr ⟨rfl,e.symm⟩
 have hg:w0.heap.size < w0.heap.size+1:=Nat.lt_succ_self _
 have keepN:∀ x,CfN w (w0.heap.size+1) x→CfN (CPut w w0.heap.size (k * 5) d) (w0.heap.size+1) x:=fun x hx=>((((hx.set hg).set hg).set hg).set hg).set hg
 refine ⟨by simp [hl],fun j c' x e1 e2=>?_,fun j x e=>?_,fun j x e=>?_,⟨fun j hj=>?_,fun j=>?_⟩,by simpa using h.lt,((((h.bl.setCell (Nat.le_refl _) _).setCell (Nat.le_refl _) _).setCell (Nat.le_refl _) _).setCell (Nat.le_refl _) _).setCell (Nat.le_refl _) _⟩
 ·rcases at1 j x e2 with ⟨_,q⟩ | ⟨rfl,rfl⟩
  ·exact h.sm j c' x e1 q
  ·rw [hc] at e1
   cases e1
   exact hs
 ·rcases at1 j x e with ⟨hj,q⟩ | ⟨rfl,rfl⟩
  ·obtain ⟨a0,a1,a2,a3,a4⟩:=h.ca j x q
   have o:∀ i,i < 5→(CPut w w0.heap.size (k * 5) d).cell? ⟨w0.heap.size,j * 5+i,none⟩=w.cell? ⟨w0.heap.size,j * 5+i,none⟩:=fun i hi=>CPut_other w _ _ d _ (fun i' hi' e=>by have:=congrArg Addr.off e;simp at this;omega)
   exact ⟨(o 0 (by omega)).trans a0,(o 1 (by omega)).trans a1,(o 2 (by omega)).trans a2,(o 3 (by omega)).trans a3,(o 4 (by omega)).trans a4⟩
  ·exact CPut_at w _ _ x (fun i hi=>h.rm.1 _ (by omega))
 ·rcases at1 j x e with ⟨_,q⟩ | ⟨rfl,rfl⟩
  ·exact keepN x (h.nw j x q)
  ·exact keepN x hd
 ·obtain ⟨v,e⟩:=h.rm.1 j hj
  have s1:∀ (W:World) (p:Addr) (u:Value) (q:Addr),(∃ v,W.cell? q=some v)→∃ v,(W.setCell p u).cell? q=some v:=fun W p u q ⟨v,e⟩=>by
   by_cases hp:q=p
   ·subst hp
    exact ⟨u,by simp [go_sem,e]⟩
   ·exact ⟨v,by rw [World.cell?_setCell_other (h:=fun e=>hp e.symm)];exact e⟩
  exact s1 _ _ _ _ (s1 _ _ _ _ (s1 _ _ _ _ (s1 _ _ _ _ (s1 _ _ _ _ ⟨v,e⟩))))
 ·unfold CPut
  simp only [World.frozen?_setCell]
  exact h.rm.2 j
theorem QA0 (a:Option Addr) (n cap:Nat) (cs:List qA5) (w:World) (hn:n≤1048576) (hle:∀ (k:Nat) c,cs[k]? = some c→qD4 1048576 c) (h:qA6 w a n cs) :
  Calls Tryz.prog 12 #[.slice a n cap] w fun e w'=>e = .returned (.slice (some ⟨w.heap.size,0,none⟩) n n)∧∃ ds,qK1 w w' n cs ds n:=by
 obtain ⟨i0,hi,hz0,hz1,hz2⟩:=info_parts Tryz.infoCf
 obtain ⟨wm,hmk,hownm,hgrm⟩:=run_make_full (P:=Tryz.prog) (w:=w) w.heap.size 35 71 i0 (.agg #[.int .i64 0,.int .i64 0,.slice none 0 0,.slice none 0 0,.slice none 0 0]) 5 Tryz.underlying35 hi hz0 hz1 .i64 .i64 n (by rw [hz2];omega) (by unfold maxLen;omega) (Nat.le_refl _)
 have H:Hid (qA6 w a n cs):=h
 have HLE:Hid (∀ (k:Nat) c,cs[k]? = some c→qD4 1048576 c):=hle
 clear h hle
 have HM:Hid (qK1 w wm n cs [] 0):=by
  refine ⟨rfl,fun j c d _ e=>by simp at e,fun j d e=>by simp at e,fun j d e=>by simp at e,⟨fun j hj=>?_,fun j=>hownm.frozenAt j⟩,(hownm.lt _ rfl).2,(Below.refl _ _).grown hgrm (Nat.le_refl _) (fun k e=>by cases e)⟩
  have hl:=hownm.1
  exact ⟨_,(hownm.cellAt j (by omega)).trans (List.getElem?_eq_getElem (by omega))⟩
 clear hownm hgrm
 have hn':(n:Int)≤1048576:=by omega
 go_enter Tryz.func12,Tryz.ntmps12
 go_wp2
 go_loopw [4] (fun i wr=>∃ (k:Nat) (ds:List qA5),k≤n∧i = .int .i64 (k:Int)∧Hid (qK1 w wr n cs ds k)) (fun i _=>n - (intOf i).toNat)
 case atStart=>exact ⟨0,[],Nat.zero_le _,rfl,HM⟩
 case round =>
  obtain ⟨k,ds,hk,rfl,HK⟩:=hrel
  by_cases hlt:k < n
  ·have hlt':(k:Int) < (n:Int):=by omega
   obtain ⟨b,off,c,rfl,hs,hr,hci⟩:=H.out.at hlt
   have HS:Hid (cs[k]? = some c):=hs
   have hb:b < wr.heap.size:=Nat.lt_of_lt_of_le hr.lt HK.out.bl.size
   have HCI:Hid (qE8 wr c):=hci.below HK.out.bl
   obtain ⟨c0,c1,c2,c3,c4⟩:=hr.below HK.out.bl
   have hx:=HLE.out k c hs
   clear hs hr hci
   go_wp2_with fail
   refine (toConfig_c c _ hx HCI.out).mono ?_
   rintro e w1 ⟨d,rfl,hsm,hdi,hdn,hb1⟩
   have K1:=HK.out.below hb1
   have K2:Hid (qK1 w (CPut w1 w.heap.size (k * 5) d) n cs (ds++[d]) (k+1)):=K1.put hlt HS.out hsm ⟨hdi,hdn.low (by have:=HK.out.lt;omega)⟩
   have hl1:=K1.lt
   obtain ⟨u0,e0⟩:=K1.rm.1 (k * 5) (by omega)
   obtain ⟨u1,e1⟩:=K1.rm.1 (k * 5+1) (by omega)
   obtain ⟨u2,e2⟩:=K1.rm.1 (k * 5+2) (by omega)
   obtain ⟨u3,e3⟩:=K1.rm.1 (k * 5+3) (by omega)
   obtain ⟨u4,e4⟩:=K1.rm.1 (k * 5+4) (by omega)
   have f0:=K1.rm.2 (k * 5)
   have f1:=K1.rm.2 (k * 5+1)
   have f2:=K1.rm.2 (k * 5+2)
   have f3:=K1.rm.2 (k * 5+3)
   have f4:=K1.rm.2 (k * 5+4)
   clear K1 hsm hdi hdn hb1 c0 c1 c2 c3 c4 HK
   go_wp2_with fail
   exact ⟨⟨k+1,ds++[d],by omega,by go_num,K2⟩,by simp [intOf];omega⟩
  ·have hkn:k=n:=by omega
   subst hkn
   go_wp2_with fail
   go_ret
   exact ⟨rfl,ds,HK.out⟩
theorem qK1.isIn {w0 w:World} {n:Nat} {cs ds:List qA5} (h:qK1 w0 w n cs ds n):qA6 w (some ⟨w0.heap.size,0,none⟩) n ds :=
 ⟨h.ln,fun _=>⟨_,0,rfl,fun k c e=>by rw [Nat.zero_add];exact h.ca k c e⟩,fun k c e=>(h.nw k c e).rd⟩
theorem QN3 (a b:Option Addr) (n ca cb:Nat) (cs ds:List qA5) (w:World) (hn:n≤1048576) (hle:∀ (k:Nat) c,cs[k]? = some c→qD4 1048576 c) (hs:∀ (j:Nat) c d,cs[j]? = some c→ds[j]? = some d→qH0 c d) (h:qA6 w a n cs) (h':qA6 w b n ds) :
  Calls Tryz.prog 15 #[.slice a n ca,.slice b n cb] w fun e w'=>e = .returned (.bool true)∧Below w.heap.size w w':=by
 have HA:Hid (qA6 w a n cs):=h
 have HB:Hid (qA6 w b n ds):=h'
 have HLE:Hid (∀ (k:Nat) c,cs[k]? = some c→qD4 1048576 c):=hle
 have HSM:Hid (∀ (j:Nat) c d,cs[j]? = some c→ds[j]? = some d→qH0 c d):=hs
 clear h h' hle hs
 have hn':(n:Int)≤1048576:=by omega
 go_enter Tryz.func15,Tryz.ntmps15
 go_wp2
 go_loopw [5] (fun i wr=>∃ k:Nat,k≤n∧i = .int .i64 (k:Int)∧Below w.heap.size w wr) (fun i _=>n - (intOf i).toNat)
 case atStart=>exact ⟨0,Nat.zero_le _,rfl,Below.refl _ _⟩
 case round =>
  obtain ⟨k,hk,rfl,hnx⟩:=hrel
  by_cases hlt:k < n
  ·obtain ⟨b1,o1,s,e1,hs1,hr1,hi1⟩:=HA.out.at hlt
   obtain ⟨b2,o2,s2,e2,hs2,hr2,hi2⟩:=HB.out.at hlt
   subst e1 e2
   have hb1:b1 < wr.heap.size:=Nat.lt_of_lt_of_le hr1.lt hnx.size
   have hb2:b2 < wr.heap.size:=Nat.lt_of_lt_of_le hr2.lt hnx.size
   obtain ⟨h0,h1,h2,h3,h4⟩:=hr1.below hnx
   obtain ⟨g0,g1,g2,g3,g4⟩:=hr2.below hnx
   have HEQ:Hid (∀ W,Below wr.heap.size wr W→Calls Tryz.prog 40 #[.agg #[.int .i64 s.e,.int .i64 s.f,.slice s.ra s.rn s.rc,.slice s.fa s.fn s.fc,.slice s.ca s.cn s.cc],.agg #[.int .i64 s2.e,.int .i64 s2.f,.slice s2.ra s2.rn s2.rc,.slice s2.fa s2.fn s2.fc,.slice s2.ca s2.cn s2.cc]] W fun e w'=>e = .returned (.bool true)∧Below W.heap.size W w'):=by
    have q1:=HLE.out k s hs1
    have q2:=HSM.out k s s2 hs1 hs2
    exact fun W hW=>QT2 s s2 W q1 q2 ((hi1.below hnx).below hW) ((hi2.below hnx).below hW)
   have hlt':(k:Int) < (n:Int):=by omega
   clear hr1 hr2 hi1 hi2 hs1 hs2
   go_wp2
   go_region_held3 (fun w'=>(∀ b o,b < wr.heap.size→w'.cell? ⟨b,o,none⟩=wr.cell? ⟨b,o,none⟩)∧Below wr.heap.size wr w') (first | exact hS | exact qB3 _)
    (first | (go_at_call 40;refine (HEQ.out _ (by first | exact hHeld.2 | exact (Below.refl _ _).drew)).mono ?_;rintro e w' ⟨rfl,hbz⟩;have hS:=qA4 (by assumption) hbz))
   go_wp2
   exact ⟨⟨k+1,by omega,by go_num,hnx.trans (hS.2.mono hnx.size)⟩,by simp [intOf];omega⟩
  ·have hkn:k=n:=by omega
   subst hkn
   go_wp2
   go_ret
   exact ⟨rfl,hnx⟩

structure qO5 (cs ds:List qA5):Prop where
 ln:ds.length=cs.length
 sm:∀ (j:Nat) c d,cs[j]? = some c→ds[j]? = some d→qH0 c d
theorem code_same {c d:qA5} (h:qH0 c d):qT4 d=qT4 c:=by
 unfold qT4
 rw [h.e,h.f,h.zs,h.ps,h.cs]
theorem qO5.get {cs ds:List qA5} (h:qO5 cs ds) {j:Nat} {d:qA5} (e:ds[j]? = some d):∃ c,cs[j]? = some c∧qH0 c d:=by
 have hj:=(List.getElem?_eq_some_iff.1 e).1
 rw [h.ln] at hj
 exact ⟨_,List.getElem?_eq_getElem hj,h.sm j _ d (List.getElem?_eq_getElem hj) e⟩
theorem qO5.f0 {cs ds:List qA5} (h:qO5 cs ds):(ds[0]?.getD default).f=(cs[0]?.getD default).f:=by
 cases e:ds[0]? with
 | none =>
  have : ds.length≤0:=by simpa using e
  have e2:cs[0]? = none:=List.getElem?_eq_none (by rw [← h.ln];exact this)
  rw [e2]
 | some d =>
  obtain ⟨c,hc,hs⟩:=h.get e
  rw [hc]
  exact hs.f
theorem QV7 {cs ds:List qA5} (h:qO5 cs ds):∀ k,qI9 ds k=qI9 cs k
 | 0=>rfl
 | k+1=>by
  have ih:=QV7 h k
  show (if qI9 ds k=0 then (match ds[k]? with
   | none=>0
   | some c=>if qT4 c=0 then (if c.f=(ds[0]?.getD default).f then 0 else 1) else qT4 c) else qI9 ds k)=_
  rw [ih]
  by_cases q:qI9 cs k=0
  ·rw [if_pos q]
   cases e:ds[k]? with
   | none =>
    have : ds.length≤k:=by simpa using e
    have e2:cs[k]? = none:=List.getElem?_eq_none (by rw [← h.ln];exact this)
    rw [qI9,if_pos q,e2]
   | some d =>
    obtain ⟨c,hc,hs⟩:=h.get e
    rw [qY8 hc q]
    simp only
    rw [code_same hs,hs.f,h.f0]
  ·rw [if_neg q,qI9,if_neg q]
theorem qO5.cfs {cs ds:List qA5} (h:qO5 cs ds):qB6 ds=qB6 cs:=by
 unfold qB6
 rw [h.ln,QV7 h]
theorem qK1.same {w0 w:World} {n:Nat} {cs ds:List qA5} (h:qK1 w0 w n cs ds n) (hc:cs.length=n):qO5 cs ds:=⟨h.ln.trans hc.symm,h.sm⟩
theorem qK1.le {w0 w wA:World} {a:Option Addr} {n:Nat} {cs ds:List qA5} (h:qK1 w0 w n cs ds n) (hn:n≤1048576) (hi:qA6 wA a n cs) (hl:∀ (k:Nat) c,cs[k]? = some c→qD4 1048576 c):qF2 1048576 ds:=by
 have hS:=h.same hi.len
 refine ⟨fun k d e=>?_,fun k d e=>?_⟩
 ·obtain ⟨c,hc,hs⟩:=hS.get e
  exact hs.le (hi.each k c hc) (h.nw k d e).rd (hl k c hc)
 ·obtain ⟨c,hc,hs⟩:=hS.get e
  have q:=(h.nw k d e).nw.rules.1
  have hl2:=(hs.le (hi.each k c hc) (h.nw k d e).rd (hl k c hc)).rules
  refine ⟨(h.nw k d e).nw.cap,?_⟩
  rw [q]
  unfold maxLen
  omega
theorem QO2 {cs ds es:List qA5} (h:qO5 cs ds) (g:qO5 cs es):∀ (j:Nat) c d,ds[j]? = some c→es[j]? = some d→qH0 c d:=fun j c d e1 e2=>by
 obtain ⟨x,hx,hs⟩:=h.get e1
 exact hs.trans (g.sm j x d hx e2)

section
open Go.RowKit Go.ChangeShapes Go.WideShapes
theorem cellsCf {w:World} {base:Nat} {a:Addr} {r:qA5} (h:w.cells? base a 5=some [.int .i64 r.e,.int .i64 r.f,.slice r.ra r.rn r.rc,.slice r.fa r.fn r.fc,.slice r.ca r.cn r.cc]):a.spot=none∧qH8 w a.block a.off r:=by
 have e:List.range 5=[0,1,2,3,4]:=rfl
 unfold World.cells? at h
 split at h
 ·rw [e] at h
  simp only [List.mapM_cons,List.mapM_nil,Option.bind_eq_bind,Option.bind_eq_some_iff,Option.pure_def,Option.some.injEq,List.cons.injEq] at h
  obtain ⟨x0,h0,y0,⟨x1,h1,y1,⟨x2,h2,y2,⟨x3,h3,y3,⟨x4,h4,y4,rfl,e4⟩,e3⟩,e2⟩,e1⟩,e0,ee⟩:=h
  subst e0
  rw [← e1] at ee
  simp only [List.cons.injEq] at ee
  obtain ⟨rfl,ee⟩:=ee
  rw [← e2] at ee
  simp only [List.cons.injEq] at ee
  obtain ⟨rfl,ee⟩:=ee
  rw [← e3] at ee
  simp only [List.cons.injEq] at ee
  obtain ⟨rfl,ee⟩:=ee
  rw [← e4] at ee
  simp only [List.cons.injEq] at ee
  obtain ⟨rfl,_⟩:=ee
  obtain ⟨b,off,spot⟩:=a
  have hspot:spot=none:=by simpa [Addr.add] using World.cell?_spot h0
  subst hspot
  simp only [Addr.add] at h0 h1 h2 h3 h4
  exact ⟨rfl,by simpa using h0,by simpa using h1,by simpa using h2,by simpa using h3,by simpa using h4⟩
 ·cases h
def QH2 (w:World) (a:Option Addr) (n:Nat) (cs:List qA5):Prop:=qA6 w a n cs∧n≤maxLen∧∀ (k:Nat) c,cs[k]? = some c→qD4 maxLen c
theorem QT6 {H:Type} {enc:TypeId × Value→H} {w:World} {base:Nat} {spare:Nat→Bool} {held:Bool} {fuel:Nat} {a0:Option Addr} {len cap:Nat} {x:DataW H × List MemPlace} (h:DataW.trod enc Tryz.prog w base spare held fuel 26 [.slice a0 len cap]=some x) :
  ∃ cs:List qA5,QH2 w a0 len cs:=by
 rcases Go.Deep.open_slice Tryz.underlying26 h with ⟨hcs,_⟩ | ⟨a,l,c,m,n,D,Pl,hcs,hb,hl,hm,hmm,_,hel⟩
 ·simp at hcs
  obtain ⟨rfl,rfl,rfl⟩:=hcs
  exact ⟨[],⟨rfl,fun h=>by omega,fun k c e=>by simp at e⟩,Nat.zero_le _,fun k c e=>by simp at e⟩
 ·simp at hcs
  obtain ⟨rfl,rfl,rfl⟩:=hcs
  have hle:len≤m:=by rw [hmm];split <;> omega
  rw [Tryz.cells63] at hel
  have hk:∀ i,i < len→∃ r:qA5,w.cells? base (a.add (i * 5)) 5=some [.int .i64 r.e,.int .i64 r.f,.slice r.ra r.rn r.rc,.slice r.fa r.fn r.fc,.slice r.ca r.cn r.cc]∧qE8 w r∧qD4 maxLen r:=fun i hi=>by
   obtain ⟨cs',hc,ht⟩:=hel i (by omega)
   obtain ⟨r,rfl,hr⟩:=conf_list ht
   exact ⟨r,hc,hr⟩
  obtain ⟨f,hf⟩:=Go.Deep.choose_lt hk
  have key:∀ (k:Nat) (r:qA5),((List.range len).map f)[k]? = some r→k < len∧r=f k:=fun k r e=>by
   have hkl:k < len:=by
    by_cases q:k < len
    ·exact q
    ·rw [List.getElem?_eq_none (by simp;omega)] at e;cases e
   rw [List.getElem?_map,List.getElem?_range hkl] at e
   simp at e
   exact ⟨hkl,e.symm⟩
  refine ⟨(List.range len).map f,⟨by simp,fun hp=>?_,fun k r e=>?_⟩,Nat.le_trans hl hm,fun k r e=>?_⟩
  ·obtain ⟨hsp,_⟩:=cellsCf (hf 0 hp).1
   obtain ⟨b,off,spot⟩:=a
   simp [Addr.add] at hsp
   subst hsp
   refine ⟨b,off,rfl,fun k r e=>?_⟩
   obtain ⟨hkl,rfl⟩:=key k r e
   obtain ⟨_,hr⟩:=cellsCf (hf k hkl).1
   have : ((⟨b,off,none⟩:Addr).add (k * 5))=⟨b,off+k * 5,none⟩:=Go.WideShapes.add_plain ..
   rw [this] at hr
   exact hr
  ·obtain ⟨hkl,rfl⟩:=key k r e
   exact (hf k hkl).2.1
  ·obtain ⟨hkl,rfl⟩:=key k r e
   exact (hf k hkl).2.2
end

end Go.Proofs.YtlhgjackapdmbaaGreatDoor
