/- Contracts. -/
import Derived.Test.YtlhgjackapdmbaaGreatDoorPc28
namespace Go.Proofs.YtlhgjackapdmbaaGreatDoor
set_option maxRecDepth 100000
set_option maxHeartbeats 8000000
open Go.RowKit
set_option linter.unusedVariables false
set_option linter.unusedSimpArgs false

theorem QN7 {m m':Nat} {c:qA3} (h:qD8 m c) (hm:m≤m'):qD8 m' c:=by
 obtain ⟨a1,a2,a3,a4⟩:=h
 exact ⟨by omega,by omega,fun k x e=>Nat.le_trans (a3 k x e) hm,by omega⟩
theorem szConfigs_c (a:Option Addr) (n cap:Nat) (fs:List qA3) (l:Int) (w:World) (hn:n≤maxLen) (hle:∀ (k:Nat) c,fs[k]? = some c→qD8 maxLen c) (h0:0≤l) (h1:l≤1048576) (h:qA6 w a n fs) :
  Calls Tryz.prog 9 #[.slice a n cap,.int .i64 l] w fun e w'=>(∃ r:Int,e = .returned (.int .i64 r)∧r≤l∧(0≤r→(n:Int)≤l∧(∀ (k:Nat) c,fs[k]? = some c→qD8 l.toNat c)))∧Below w.heap.size w w':=by
 have H:Hid (qA6 w a n fs):=h
 have HZ:Hid (fs.length=n):=h.len
 have HLE:Hid (∀ (k:Nat) c,fs[k]? = some c→qD8 maxLen c):=hle
 have hn':(n:Int)≤9223372036854775807:=by unfold maxLen at hn;omega
 clear h hle hn
 by_cases hlt:(n:Int)≤l
 ·go_enter Tryz.func9,Tryz.ntmps9
  go_wp2
  go_loopw [1,5] (fun q i wr=>∃ (k:Nat) (r:Int),k≤n∧i = .int .i64 (k:Int)∧q = .int .i64 r∧0≤r∧r≤l∧(∀ j x,j < k→fs[j]? = some x→qD8 l.toNat x)∧Below w.heap.size w wr)
   (fun _ i _=>n - (intOf i).toNat)
  case atStart=>exact ⟨0,_,Nat.zero_le _,rfl,rfl,by omega,by omega,fun j x hj=>by omega,Below.refl _ _⟩
  case round =>
   obtain ⟨k,r,hk,rfl,rfl,hr0,hr1,hok,hnx⟩:=hrel
   have HOK:Hid (∀ j x,j < k→fs[j]? = some x→qD8 l.toNat x):=hok
   clear hok
   by_cases hkn:k < n
   ·obtain ⟨b,off,x,rfl,hs,hr,hci⟩:=H.out.at hkn
    have HS:Hid (fs[k]? = some x):=hs
    have hx:qD8 maxLen x:=HLE.out k x hs
    have HCI:Hid (qF5 wr x):=((H.out.below (hnx.mono (Nat.le_refl _))).each k x hs)
    have hb:b < w.heap.size:=hr.lt
    obtain ⟨c0,c1,c2,c3,c4⟩:=hr.below hnx
    clear hs hr hci
    have hkn':(k:Int) < (n:Int):=by omega
    go_wp2_with fail
    refine (szConfig_c x r _ hx hr0 (by omega) HCI.out).mono ?_
    rintro e w1 ⟨⟨r',rfl,hr'1,hr'2⟩,hb1⟩
    have hb01:Below w.heap.size w w1:=hnx.trans (hb1.mono hnx.size)
    by_cases hneg:r' < 0
    ·clear c0 c1 c2 c3 c4
     go_wp2
     go_ret
     exact ⟨⟨_,rfl,by omega,fun q=>by omega⟩,hb01⟩
    ·have HN:Hid (∀ j y,j < k+1→fs[j]? = some y→qD8 l.toNat y):=fun j y hj hy=>by
      by_cases e:j=k
      ·subst e
       rw [HS.out] at hy
       cases hy
       exact QN7 (hr'2 (by omega)) (by omega)
      ·exact HOK.out j y (by omega) hy
     have hge:0≤r':=by omega
     clear c0 c1 c2 c3 c4 hr'2
     go_wp2
     exact ⟨⟨k+1,r',by omega,by go_num,rfl,hge,by omega,HN.out,hb01⟩,by simp [intOf];omega⟩
   ·have hkn':k=n:=by omega
    subst hkn'
    have HQ:Hid (∀ (k:Nat) c,fs[k]? = some c→qD8 l.toNat c):=fun j x hj=>by
     have : j < k:=by
      by_cases q:j < k
      ·exact q
      ·rw [List.getElem?_eq_none (by rw [HZ.out];omega)] at hj;cases hj
     exact HOK.out j x this hj
    go_wp2
    go_ret
    exact ⟨⟨r,rfl,hr1,fun _=>⟨hlt,HQ.out⟩⟩,hnx⟩
 ·have hlt':l < (n:Int):=by omega
  go_enter Tryz.func9,Tryz.ntmps9
  go_wp2
  go_ret
  exact ⟨⟨_,rfl,by omega,fun q=>by omega⟩,by go_grown⟩

theorem Tryz.infoCf:(Tryz.prog.info? 71).map (fun i=>(i.zero,i.size,i.bytes))=some (some (.agg #[.int .i64 0,.int .i64 0,.slice none 0 0,.slice none 0 0,.slice none 0 0]),5,88):=by kernel_rfl
abbrev CPut (w:World) (B o:Nat) (d:qA3):World:=((((w.setCell ⟨B,o,none⟩ (.int .i64 d.e)).setCell ⟨B,o+1,none⟩ (.int .i64 d.f)).setCell ⟨B,o+2,none⟩ (.slice d.ra d.rn d.rc)).setCell ⟨B,o+3,none⟩ (.slice d.fa d.fn d.fc)).setCell ⟨B,o+4,none⟩ (.slice d.ca d.cn d.cc)
theorem CPut_other (w:World) (B o:Nat) (d:qA3) (q:Addr) (h:∀ j,j < 5→q≠⟨B,o+j,none⟩):(CPut w B o d).cell? q=w.cell? q:=by
 have h0:q≠⟨B,o,none⟩:=h 0 (by omega)
 unfold CPut
 rw [World.cell?_setCell_other (h:=fun e=>h 4 (by omega) e.symm),World.cell?_setCell_other (h:=fun e=>h 3 (by omega) e.symm),World.cell?_setCell_other (h:=fun e=>h 2 (by omega) e.symm),World.cell?_setCell_other (h:=fun e=>h 1 (by omega) e.symm),World.cell?_setCell_other (h:=fun e=>h0 e.symm)]
theorem CPut_at (w:World) (B o:Nat) (d:qA3) (h:∀ j,j < 5→∃ v,w.cell? ⟨B,o+j,none⟩=some v):qI7 (CPut w B o d) B o d:=by
 obtain ⟨v0,h0⟩:=h 0 (by omega)
 obtain ⟨v1,h1⟩:=h 1 (by omega)
 obtain ⟨v2,h2⟩:=h 2 (by omega)
 obtain ⟨v3,h3⟩:=h 3 (by omega)
 obtain ⟨v4,h4⟩:=h 4 (by omega)
 rw [Nat.add_zero] at h0
 unfold qI7 CPut
 refine ⟨?_,?_,?_,?_,?_⟩ <;> simp [go_sem,h0,h1,h2,h3,h4]
structure qH4 (w0 w:World) (n:Nat) (cs ds:List qA3) (k:Nat):Prop where
 ln:ds.length=k
 sm:∀ (j:Nat) c d,cs[j]? = some c→ds[j]? = some d→qH8 c d
 ca:∀ (j:Nat) d,ds[j]? = some d→qI7 w w0.heap.size (j * 5) d
 nw:∀ (j:Nat) d,ds[j]? = some d→CfN w (w0.heap.size+1) d
 rm:(∀ j,j < n * 5→∃ v,w.cell? ⟨w0.heap.size,j,none⟩=some v)∧∀ j,w.frozen? ⟨w0.heap.size,j,none⟩=false
 lt:w0.heap.size < w.heap.size
 bl:Below w0.heap.size w0 w
theorem qH4.below {w0 w w':World} {n:Nat} {cs ds:List qA3} {k:Nat} (h:qH4 w0 w n cs ds k) (hb:Below w.heap.size w w'):qH4 w0 w' n cs ds k :=
 ⟨h.ln,h.sm,fun j d e=>(h.ca j d e).below hb,fun j d e=>⟨(h.nw j d e).rd.below hb,(h.nw j d e).nw.below hb⟩,⟨fun j hj=>by obtain ⟨v,e⟩:=h.rm.1 j hj;exact ⟨v,(hb.cell (p:=⟨w0.heap.size,j,none⟩) h.lt).trans e⟩,fun j=>(hb.frozen (p:=⟨w0.heap.size,j,none⟩) h.lt).trans (h.rm.2 j)⟩,Nat.lt_of_lt_of_le h.lt hb.size,h.bl.trans (hb.mono h.bl.size)⟩
theorem qH4.put {w0 w:World} {n:Nat} {cs ds:List qA3} {k:Nat} (h:qH4 w0 w n cs ds k) (hk:k < n) {c d:qA3} (hc:cs[k]? = some c) (hs:qH8 c d) (hd:CfN w (w0.heap.size+1) d):qH4 w0 (CPut w w0.heap.size (k * 5) d) n cs (ds++[d]) (k+1):=by
 have hl:=h.ln
 have at1:∀ (j:Nat) x,(ds++[d])[j]? = some x→(j < k∧ds[j]? = some x)∨(j=k∧x=d):=fun j x e=>by
  by_cases hj:j < k
  ·rw [List.getElem?_append_left (by omega)] at e
   exact .inl ⟨hj,e⟩
  ·have hjk:j=k:=by
    have:=(List.getElem?_eq_some_iff.1 e).1
    simp at this
    omega
   subst hjk
   rw [← hl,List.getElem?_append_right (Nat.le_refl _),Nat.sub_self] at e
   simp at e
   exact .inr ⟨rfl,e.symm⟩
 have hg:w0.heap.size < w0.heap.size+1:=Nat.lt_succ_self _
 have keepN:∀ x,CfN w (w0.heap.size+1) x→CfN (CPut w w0.heap.size (k * 5) d) (w0.heap.size+1) x:=fun x hx=>((((hx.set hg).set hg).set hg).set hg).set hg
 refine ⟨by simp [hl],fun j c' x e1 e2=>?_,fun j x e=>?_,fun j x e=>?_,⟨fun j hj=>?_,fun j=>?_⟩,by simpa using h.lt,((((h.bl.setCell (Nat.le_refl _) _).setCell (Nat.le_refl _) _).setCell (Nat.le_refl _) _).setCell (Nat.le_refl _) _).setCell (Nat.le_refl _) _⟩
 ·rcases at1 j x e2 with ⟨_,q⟩ | ⟨rfl,rfl⟩
  ·exact h.sm j c' x e1 q
  ·rw [hc] at e1
   cases e1
   exact hs
 ·rcases at1 j x e with ⟨hj,q⟩ | ⟨rfl,rfl⟩
  ·obtain ⟨a0,a1,a2,a3,a4⟩:=h.ca j x q
   have o:∀ i,i < 5→(CPut w w0.heap.size (k * 5) d).cell? ⟨w0.heap.size,j * 5+i,none⟩=w.cell? ⟨w0.heap.size,j * 5+i,none⟩:=fun i hi=>CPut_other w _ _ d _ (fun i' hi' e=>by have:=congrArg Addr.off e;simp at this;omega)
   exact ⟨(o 0 (by omega)).trans a0,(o 1 (by omega)).trans a1,(o 2 (by omega)).trans a2,(o 3 (by omega)).trans a3,(o 4 (by omega)).trans a4⟩
  ·exact CPut_at w _ _ x (fun i hi=>h.rm.1 _ (by omega))
 ·rcases at1 j x e with ⟨_,q⟩ | ⟨rfl,rfl⟩
  ·exact keepN x (h.nw j x q)
  ·exact keepN x hd
 ·obtain ⟨v,e⟩:=h.rm.1 j hj
  have s1:∀ (W:World) (p:Addr) (u:Value) (q:Addr),(∃ v,W.cell? q=some v)→∃ v,(W.setCell p u).cell? q=some v:=fun W p u q ⟨v,e⟩=>by
   by_cases hp:q=p
   ·subst hp
    exact ⟨u,by simp [go_sem,e]⟩
   ·exact ⟨v,by rw [World.cell?_setCell_other (h:=fun e=>hp e.symm)];exact e⟩
  exact s1 _ _ _ _ (s1 _ _ _ _ (s1 _ _ _ _ (s1 _ _ _ _ (s1 _ _ _ _ ⟨v,e⟩))))
 ·unfold CPut
  simp only [World.frozen?_setCell]
  exact h.rm.2 j
theorem qW8 (a:Option Addr) (n cap:Nat) (cs:List qA3) (w:World) (hn:n≤1048576) (hle:∀ (k:Nat) c,cs[k]? = some c→qD8 1048576 c) (h:qA6 w a n cs) :
  Calls Tryz.prog 12 #[.slice a n cap] w fun e w'=>e = .returned (.slice (some ⟨w.heap.size,0,none⟩) n n)∧∃ ds,qH4 w w' n cs ds n:=by
 obtain ⟨i0,hi,hz0,hz1,hz2⟩:=info_parts Tryz.infoCf
 obtain ⟨wm,hmk,hownm,hgrm⟩:=run_make_full (P:=Tryz.prog) (w:=w) w.heap.size 35 71 i0 (.agg #[.int .i64 0,.int .i64 0,.slice none 0 0,.slice none 0 0,.slice none 0 0]) 5 Tryz.underlying35 hi hz0 hz1 .i64 .i64 n (by rw [hz2];omega) (by unfold maxLen;omega) (Nat.le_refl _)
 have H:Hid (qA6 w a n cs):=h
 have HLE:Hid (∀ (k:Nat) c,cs[k]? = some c→qD8 1048576 c):=hle
 clear h hle
 have HM:Hid (qH4 w wm n cs [] 0):=by
  refine ⟨rfl,fun j c d _ e=>by simp at e,fun j d e=>by simp at e,fun j d e=>by simp at e,⟨fun j hj=>?_,fun j=>hownm.frozenAt j⟩,(hownm.lt _ rfl).2,(Below.refl _ _).grown hgrm (Nat.le_refl _) (fun k e=>by cases e)⟩
  have hl:=hownm.1
  exact ⟨_,(hownm.cellAt j (by omega)).trans (List.getElem?_eq_getElem (by omega))⟩
 clear hownm hgrm
 have hn':(n:Int)≤1048576:=by omega
 go_enter Tryz.func12,Tryz.ntmps12
 go_wp2
 go_loopw [4] (fun i wr=>∃ (k:Nat) (ds:List qA3),k≤n∧i = .int .i64 (k:Int)∧Hid (qH4 w wr n cs ds k)) (fun i _=>n - (intOf i).toNat)
 case atStart=>exact ⟨0,[],Nat.zero_le _,rfl,HM⟩
 case round =>
  obtain ⟨k,ds,hk,rfl,HK⟩:=hrel
  by_cases hlt:k < n
  ·have hlt':(k:Int) < (n:Int):=by omega
   obtain ⟨b,off,c,rfl,hs,hr,hci⟩:=H.out.at hlt
   have HS:Hid (cs[k]? = some c):=hs
   have hb:b < wr.heap.size:=Nat.lt_of_lt_of_le hr.lt HK.out.bl.size
   have HCI:Hid (qF5 wr c):=hci.below HK.out.bl
   obtain ⟨c0,c1,c2,c3,c4⟩:=hr.below HK.out.bl
   have hx:=HLE.out k c hs
   clear hs hr hci
   go_wp2_with fail
   refine (toConfig_c c _ hx HCI.out).mono ?_
   rintro e w1 ⟨d,rfl,hsm,hdi,hdn,hb1⟩
   have K1:=HK.out.below hb1
   have K2:Hid (qH4 w (CPut w1 w.heap.size (k * 5) d) n cs (ds++[d]) (k+1)):=K1.put hlt HS.out hsm ⟨hdi,hdn.low (by have:=HK.out.lt;omega)⟩
   have hl1:=K1.lt
   obtain ⟨u0,e0⟩:=K1.rm.1 (k * 5) (by omega)
   obtain ⟨u1,e1⟩:=K1.rm.1 (k * 5+1) (by omega)
   obtain ⟨u2,e2⟩:=K1.rm.1 (k * 5+2) (by omega)
   obtain ⟨u3,e3⟩:=K1.rm.1 (k * 5+3) (by omega)
   obtain ⟨u4,e4⟩:=K1.rm.1 (k * 5+4) (by omega)
   have f0:=K1.rm.2 (k * 5)
   have f1:=K1.rm.2 (k * 5+1)
   have f2:=K1.rm.2 (k * 5+2)
   have f3:=K1.rm.2 (k * 5+3)
   have f4:=K1.rm.2 (k * 5+4)
   clear K1 hsm hdi hdn hb1 c0 c1 c2 c3 c4 HK
   go_wp2_with fail
   exact ⟨⟨k+1,ds++[d],by omega,by go_num,K2⟩,by simp [intOf];omega⟩
  ·have hkn:k=n:=by omega
   subst hkn
   go_wp2_with fail
   go_ret
   exact ⟨rfl,ds,HK.out⟩
theorem qH4.isIn {w0 w:World} {n:Nat} {cs ds:List qA3} (h:qH4 w0 w n cs ds n):qA6 w (some ⟨w0.heap.size,0,none⟩) n ds :=
 ⟨h.ln,fun _=>⟨_,0,rfl,fun k c e=>by rw [Nat.zero_add];exact h.ca k c e⟩,fun k c e=>(h.nw k c e).rd⟩
theorem QP6 (a b:Option Addr) (n ca cb:Nat) (cs ds:List qA3) (w:World) (hn:n≤1048576) (hle:∀ (k:Nat) c,cs[k]? = some c→qD8 1048576 c) (hs:∀ (j:Nat) c d,cs[j]? = some c→ds[j]? = some d→qH8 c d) (h:qA6 w a n cs) (h':qA6 w b n ds) :
  Calls Tryz.prog 15 #[.slice a n ca,.slice b n cb] w fun e w'=>e = .returned (.bool true)∧Below w.heap.size w w':=by
 have HA:Hid (qA6 w a n cs):=h
 have HB:Hid (qA6 w b n ds):=h'
 have HLE:Hid (∀ (k:Nat) c,cs[k]? = some c→qD8 1048576 c):=hle
 have HSM:Hid (∀ (j:Nat) c d,cs[j]? = some c→ds[j]? = some d→qH8 c d):=hs
 clear h h' hle hs
 have hn':(n:Int)≤1048576:=by omega
 go_enter Tryz.func15,Tryz.ntmps15
 go_wp2
 go_loopw [5] (fun i wr=>∃ k:Nat,k≤n∧i = .int .i64 (k:Int)∧Below w.heap.size w wr) (fun i _=>n - (intOf i).toNat)
 case atStart=>exact ⟨0,Nat.zero_le _,rfl,Below.refl _ _⟩
 case round =>
  obtain ⟨k,hk,rfl,hnx⟩:=hrel
  by_cases hlt:k < n
  ·obtain ⟨b1,o1,s,e1,hs1,hr1,hi1⟩:=HA.out.at hlt
   obtain ⟨b2,o2,s2,e2,hs2,hr2,hi2⟩:=HB.out.at hlt
   subst e1 e2
   have hb1:b1 < wr.heap.size:=Nat.lt_of_lt_of_le hr1.lt hnx.size
   have hb2:b2 < wr.heap.size:=Nat.lt_of_lt_of_le hr2.lt hnx.size
   obtain ⟨h0,h1,h2,h3,h4⟩:=hr1.below hnx
   obtain ⟨g0,g1,g2,g3,g4⟩:=hr2.below hnx
   have HEQ:Hid (∀ W,Below wr.heap.size wr W→Calls Tryz.prog 40 #[.agg #[.int .i64 s.e,.int .i64 s.f,.slice s.ra s.rn s.rc,.slice s.fa s.fn s.fc,.slice s.ca s.cn s.cc],.agg #[.int .i64 s2.e,.int .i64 s2.f,.slice s2.ra s2.rn s2.rc,.slice s2.fa s2.fn s2.fc,.slice s2.ca s2.cn s2.cc]] W fun e w'=>e = .returned (.bool true)∧Below W.heap.size W w'):=by
    have q1:=HLE.out k s hs1
    have q2:=HSM.out k s s2 hs1 hs2
    exact fun W hW=>QV5 s s2 W q1 q2 ((hi1.below hnx).below hW) ((hi2.below hnx).below hW)
   have hlt':(k:Int) < (n:Int):=by omega
   clear hr1 hr2 hi1 hi2 hs1 hs2
   go_wp2
   go_region_held3 (fun w'=>(∀ b o,b < wr.heap.size→w'.cell? ⟨b,o,none⟩=wr.cell? ⟨b,o,none⟩)∧Below wr.heap.size wr w') (first | exact hS | exact qB6 _)
    (first | (go_at_call 40;refine (HEQ.out _ (by first | exact hHeld.2 | exact (Below.refl _ _).drew)).mono ?_;rintro e w' ⟨rfl,hbz⟩;have hS:=qA7 (by assumption) hbz))
   go_wp2
   exact ⟨⟨k+1,by omega,by go_num,hnx.trans (hS.2.mono hnx.size)⟩,by simp [intOf];omega⟩
  ·have hkn:k=n:=by omega
   subst hkn
   go_wp2
   go_ret
   exact ⟨rfl,hnx⟩

theorem QZ6 (lo hi g n cap:Nat) (k0:Int) (w:World) (hn:n≤1048576) (h0:0≤k0) (h1:k0≤9000000000000000000) (hg:lo≤g∧g < hi) (h:qN9 w g (n * 8)) :
  Calls Tryz.prog 45 #[.slice (some ⟨g,0,none⟩) n cap,.int .i64 k0] w fun e w'=>e = .returned (.int .i64 (k0+8 * (n:Int)))∧Mrk w w'∧Chg lo hi w w':=by
 have HO:Hid (MI lo hi w w g (n * 8)):=⟨Mrk.refl w,Chg.refl w,h⟩
 clear h
 have hn':(n:Int)≤1048576:=by omega
 go_enter Tryz.func45,Tryz.ntmps45
 go_wp2
 go_loopw [1,5] (fun q i wr=>∃ (j:Nat),j≤n∧i = .int .i64 (j:Int)∧q = .int .i64 (k0+8 * (j:Int))∧MI lo hi w wr g (n * 8))
  (fun _ i _=>n - (intOf i).toNat)
 case atStart=>exact ⟨0,Nat.zero_le _,rfl,by simp,HO.out⟩
 case round =>
  obtain ⟨j,hj,rfl,rfl,hmi⟩:=hrel
  have HG:Hid (MI lo hi w wr g (n * 8)):=hmi
  have hroom:=hmi.rw
  clear hmi
  by_cases hlt:j < n
  ·have hlt':(j:Int) < (n:Int):=by omega
   obtain ⟨v0,c0⟩:=hroom.1 (j * 8) (by omega)
   have f0:=hroom.2 (j * 8)
   obtain ⟨v1,c1⟩:=hroom.1 (j * 8+1) (by omega)
   have f1:=hroom.2 (j * 8+1)
   obtain ⟨v2,c2⟩:=hroom.1 (j * 8+2) (by omega)
   have f2:=hroom.2 (j * 8+2)
   obtain ⟨v3,c3⟩:=hroom.1 (j * 8+3) (by omega)
   have f3:=hroom.2 (j * 8+3)
   obtain ⟨v4,c4⟩:=hroom.1 (j * 8+4) (by omega)
   have f4:=hroom.2 (j * 8+4)
   obtain ⟨v5,c5⟩:=hroom.1 (j * 8+5) (by omega)
   have f5:=hroom.2 (j * 8+5)
   obtain ⟨v6,c6⟩:=hroom.1 (j * 8+6) (by omega)
   have f6:=hroom.2 (j * 8+6)
   obtain ⟨v7,c7⟩:=hroom.1 (j * 8+7) (by omega)
   have f7:=hroom.2 (j * 8+7)
   clear hroom
   go_wp2
   refine ⟨⟨j+1,by omega,by go_num,?_,?_⟩,by simp [intOf];omega⟩
   ·congr 1;omega
   ·exact ((((((((HG.out.set hg (show j * 8 < n * 8 by omega) _).set hg (show j * 8+1 < n * 8 by omega) _).set hg (show j * 8+2 < n * 8 by omega) _).set hg (show j * 8+3 < n * 8 by omega) _).set hg (show j * 8+4 < n * 8 by omega) _).set hg (show j * 8+5 < n * 8 by omega) _).set hg (show j * 8+6 < n * 8 by omega) _).set hg (show j * 8+7 < n * 8 by omega) _)
  ·have hjn:j=n:=by omega
   subst hjn
   clear hroom
   go_wp2
   go_ret
   exact ⟨rfl,HG.out.mr,HG.out.ch⟩
theorem QZ7 (lo hi g n cap:Nat) (k0:Int) (w:World) (hn:n≤1048576) (h0:0≤k0) (h1:k0≤9000000000000000000) (hg:lo≤g∧g < hi) (h:qN9 w g (n * 5)) :
  Calls Tryz.prog 71 #[.slice (some ⟨g,0,none⟩) n cap,.int .i64 k0] w fun e w'=>e = .returned (.int .i64 (k0+5 * (n:Int)))∧Mrk w w'∧Chg lo hi w w':=by
 have HO:Hid (MI lo hi w w g (n * 5)):=⟨Mrk.refl w,Chg.refl w,h⟩
 clear h
 have hn':(n:Int)≤1048576:=by omega
 go_enter Tryz.func71,Tryz.ntmps71
 go_wp2
 go_loopw [1,5] (fun q i wr=>∃ (j:Nat),j≤n∧i = .int .i64 (j:Int)∧q = .int .i64 (k0+5 * (j:Int))∧MI lo hi w wr g (n * 5))
  (fun _ i _=>n - (intOf i).toNat)
 case atStart=>exact ⟨0,Nat.zero_le _,rfl,by simp,HO.out⟩
 case round =>
  obtain ⟨j,hj,rfl,rfl,hmi⟩:=hrel
  have HG:Hid (MI lo hi w wr g (n * 5)):=hmi
  have hroom:=hmi.rw
  clear hmi
  by_cases hlt:j < n
  ·have hlt':(j:Int) < (n:Int):=by omega
   obtain ⟨v0,c0⟩:=hroom.1 (j * 5) (by omega)
   have f0:=hroom.2 (j * 5)
   obtain ⟨v1,c1⟩:=hroom.1 (j * 5+1) (by omega)
   have f1:=hroom.2 (j * 5+1)
   obtain ⟨v2,c2⟩:=hroom.1 (j * 5+2) (by omega)
   have f2:=hroom.2 (j * 5+2)
   obtain ⟨v3,c3⟩:=hroom.1 (j * 5+3) (by omega)
   have f3:=hroom.2 (j * 5+3)
   obtain ⟨v4,c4⟩:=hroom.1 (j * 5+4) (by omega)
   have f4:=hroom.2 (j * 5+4)
   clear hroom
   go_wp2
   refine ⟨⟨j+1,by omega,by go_num,?_,?_⟩,by simp [intOf];omega⟩
   ·congr 1;omega
   ·exact (((((HG.out.set hg (show j * 5 < n * 5 by omega) _).set hg (show j * 5+1 < n * 5 by omega) _).set hg (show j * 5+2 < n * 5 by omega) _).set hg (show j * 5+3 < n * 5 by omega) _).set hg (show j * 5+4 < n * 5 by omega) _)
  ·have hjn:j=n:=by omega
   subst hjn
   clear hroom
   go_wp2
   go_ret
   exact ⟨rfl,HG.out.mr,HG.out.ch⟩
def QQ1 (lo hi:Nat) (w:World) (x:qE9):Prop:=x.n≤1048576∧∃ g,x.a=some ⟨g,0,none⟩∧lo≤g∧g < hi∧qN9 w g (x.n * 5)
theorem QQ1.mrk {lo hi:Nat} {w w':World} {x:qE9} (h:QQ1 lo hi w x) (k:Mrk w w'):QQ1 lo hi w' x:=by
 obtain ⟨h0,g,h1,h2,h3,h4⟩:=h
 exact ⟨h0,g,h1,h2,h3,h4.mrk k⟩
def qV3 (lo hi:Nat) (w:World) (g n:Nat) (fs:List qE9):Prop:=fs.length=n∧∀ (k:Nat) (x:qE9),fs[k]? = some x→w.cell? ⟨g,k,none⟩=some (.slice x.a x.n x.cap)∧QQ1 lo hi w x
theorem qV3.mrk {lo hi:Nat} {w w':World} {g n:Nat} {fs:List qE9} (h:qV3 lo hi w g n fs) (k:Mrk w w'):qV3 lo hi w' g n fs :=
 ⟨h.1,fun j x e=>⟨k.sl _ _ _ _ (h.2 j x e).1,(h.2 j x e).2.mrk k⟩⟩
theorem QZ9 (lo hi g n cap:Nat) (k0:Int) (fs:List qE9) (w:World) (hn:n≤1048576) (h0:0≤k0) (h1:k0≤8000000000000000000) (h:qV3 lo hi w g n fs) :
  Calls Tryz.prog 46 #[.slice (some ⟨g,0,none⟩) n cap,.int .i64 k0] w fun e w'=>(∃ k:Int,e = .returned (.int .i64 k)∧k0≤k∧k≤k0+5242880 * (n:Int))∧Mrk w w'∧Chg lo hi w w':=by
 have HO:Hid (qV3 lo hi w g n fs):=h
 clear h
 have hn':(n:Int)≤1048576:=by omega
 go_enter Tryz.func46,Tryz.ntmps46
 go_wp2
 go_loopw [1,5] (fun q i wr=>∃ (j:Nat) (k:Int),j≤n∧i = .int .i64 (j:Int)∧q = .int .i64 k∧(k0≤k∧k≤k0+5242880 * (j:Int))∧Mrk w wr∧Chg lo hi w wr)
  (fun _ i _=>n - (intOf i).toNat)
 case atStart=>exact ⟨0,k0,Nat.zero_le _,rfl,rfl,⟨by omega,by omega⟩,Mrk.refl _,Chg.refl _⟩
 case round =>
  obtain ⟨j,k,hj,rfl,rfl,⟨hk0,hk1⟩,hmk,hch⟩:=hrel
  have HM:Hid (Mrk w wr∧Chg lo hi w wr):=⟨hmk,hch⟩
  have HT:=HO.out.mrk hmk
  clear hmk hch
  by_cases hlt:j < n
  ·have hlt':(j:Int) < (n:Int):=by omega
   obtain ⟨x,hx⟩:∃ x,fs[j]? = some x:=⟨_,List.getElem?_eq_getElem (by rw [HT.1];exact hlt)⟩
   obtain ⟨hc,hxn,gp,hxa,hlo,hhi,hrow⟩:=HT.2 j x hx
   have HR:Hid (qN9 wr gp (x.n * 5)):=hrow
   have hgl:=zL wr ⟨g,j,none⟩ hc
   rw [hxa] at hc
   clear hx hrow HT
   go_wp2_with fail
   refine (QZ7 lo hi gp x.n x.cap k wr hxn (by omega) (by omega) ⟨hlo,hhi⟩ HR.out).mono ?_
   rintro d w1 ⟨rfl,hm1,hc1⟩
   have HM1:Hid (Mrk w w1∧Chg lo hi w w1):=⟨HM.out.1.trans hm1,HM.out.2.trans hc1⟩
   have hxn':(x.n:Int)≤1048576:=by omega
   clear hm1 hc1 HM hc
   go_wp2_with fail
   exact ⟨⟨j+1,k+5 * (x.n:Int),by omega,by go_num,rfl,⟨by omega,by simp;omega⟩,HM1.out.1,HM1.out.2⟩,by simp [intOf];omega⟩
  ·have hjn:j=n:=by omega
   subst hjn
   go_wp2_with fail
   go_ret
   exact ⟨⟨k,rfl,hk0,hk1⟩,HM.out.1,HM.out.2⟩

structure ConfK (lo hi:Nat) (w:World) (d:qA3):Prop where
 ru:d.rn≤1048576∧∃ g,d.ra=some ⟨g,0,none⟩∧lo≤g∧g < hi∧qN9 w g (d.rn * 8)
 fo:d.fn≤1048576∧∃ g,d.fa=some ⟨g,0,none⟩∧qV3 lo hi w g d.fn d.fs
 cl:d.cn≤1048576∧∃ g,d.ca=some ⟨g,0,none⟩∧lo≤g∧g < hi∧qN9 w g d.cn
theorem ConfK.mrk {lo hi:Nat} {w w':World} {d:qA3} (h:ConfK lo hi w d) (k:Mrk w w'):ConfK lo hi w' d:=by
 obtain ⟨⟨a0,g,a1,a2,a3,a4⟩,⟨b0,g',b1,b2⟩,⟨c0,g'',c1,c2,c3,c4⟩⟩:=h
 exact ⟨⟨a0,g,a1,a2,a3,a4.mrk k⟩,⟨b0,g',b1,b2.mrk k⟩,⟨c0,g'',c1,c2,c3,c4.mrk k⟩⟩
structure qQ2 (lo hi:Nat) (w:World) (T n:Nat) (ds:List qA3):Prop where
 ln:ds.length=n
 at5:∀ (j:Nat) (d:qA3),ds[j]? = some d→(∃ x,w.cell? ⟨T,j * 5,none⟩=some (.int .i64 x))∧(∃ x,w.cell? ⟨T,j * 5+1,none⟩=some (.int .i64 x))∧w.cell? ⟨T,j * 5+2,none⟩=some (.slice d.ra d.rn d.rc)∧w.cell? ⟨T,j * 5+3,none⟩=some (.slice d.fa d.fn d.fc)∧w.cell? ⟨T,j * 5+4,none⟩=some (.slice d.ca d.cn d.cc)∧ConfK lo hi w d
 fr:∀ o,w.frozen? ⟨T,o,none⟩=false
 lo:lo≤T∧T < hi
theorem qQ2.mrk {lo hi:Nat} {w w':World} {T n:Nat} {ds:List qA3} (h:qQ2 lo hi w T n ds) (k:Mrk w w'):qQ2 lo hi w' T n ds :=
 ⟨h.ln,fun j d e=>by
  obtain ⟨⟨x,h0⟩,⟨y,h1⟩,h2,h3,h4,h5⟩:=h.at5 j d e
  exact ⟨k.it _ x h0,k.it _ y h1,k.sl _ _ _ _ h2,k.sl _ _ _ _ h3,k.sl _ _ _ _ h4,h5.mrk k⟩,fun o=>(k.fr _).trans (h.fr o),h.lo⟩
theorem QP2 (lo hi T n cap:Nat) (k0:Int) (ds:List qA3) (w:World) (hn:n≤1048576) (h0:0≤k0) (h1:k0≤1000000000000000000) (h:qQ2 lo hi w T n ds) :
  Calls Tryz.prog 23 #[.slice (some ⟨T,0,none⟩) n cap,.int .i64 k0] w fun e w'=>(∃ k:Int,e = .returned (.int .i64 k)∧k0≤k∧k≤k0+5497567576066 * (n:Int))∧Mrk w w'∧Chg lo hi w w':=by
 have HO:Hid (qQ2 lo hi w T n ds):=h
 clear h
 have hn':(n:Int)≤1048576:=by omega
 go_enter Tryz.func23,Tryz.ntmps23
 go_wp2
 go_loopw [1,5] (fun q i wr=>∃ (j:Nat) (k:Int),j≤n∧i = .int .i64 (j:Int)∧q = .int .i64 k∧(k0≤k∧k≤k0+5497567576066 * (j:Int))∧Mrk w wr∧Chg lo hi w wr)
  (fun _ i _=>n - (intOf i).toNat)
 case atStart=>exact ⟨0,k0,Nat.zero_le _,rfl,rfl,⟨by omega,by omega⟩,Mrk.refl _,Chg.refl _⟩
 case round =>
  obtain ⟨j,k,hj,rfl,rfl,⟨hk0,hk1⟩,hmk,hch⟩:=hrel
  have HM:Hid (Mrk w wr∧Chg lo hi w wr):=⟨hmk,hch⟩
  have HT:Hid (qQ2 lo hi wr T n ds):=HO.out.mrk hmk
  clear hmk hch
  by_cases hlt:j < n
  ·have hlt':(j:Int) < (n:Int):=by omega
   obtain ⟨d,hd⟩:∃ d,ds[j]? = some d:=⟨_,List.getElem?_eq_getElem (by rw [HT.out.ln];exact hlt)⟩
   obtain ⟨⟨x,c0⟩,⟨y,c1⟩,c2,c3,c4,hck⟩:=HT.out.at5 j d hd
   have HCK:Hid (ConfK lo hi wr d):=hck
   obtain ⟨⟨hrn,gr,hra,_⟩,⟨hfn,gf,hfa,_⟩,⟨hcn,gc,hca,_⟩⟩:=hck
   have f0:=HT.out.fr (j * 5)
   have f1:=HT.out.fr (j * 5+1)
   have hTl:=zL wr ⟨T,j * 5,none⟩ c0
   rw [hra] at c2
   rw [hfa] at c3
   rw [hca] at c4
   obtain ⟨W2,hW2⟩:∃ W2,W2=(wr.setCell ⟨T,j * 5,none⟩ (.int .i64 k)).setCell ⟨T,j * 5+1,none⟩ (.int .i64 (k+1)):=⟨_,rfl⟩
   have M2:Mrk wr W2:=by
    rw [hW2]
    obtain ⟨z,hz⟩:=(Mrk.set c0 k).it _ _ c1
    exact (Mrk.set c0 k).trans (Mrk.set hz (k+1))
   have C2:Chg lo hi wr W2:=by
    rw [hW2]
    exact (Chg.grown (qJ3 wr T (j * 5) _) (fun q e=>by cases e;exact HT.out.lo)).trans (Chg.grown (qJ3 _ T (j * 5+1) _) (fun q e=>by cases e;exact HT.out.lo))
   have HM2:Hid (Mrk w W2∧Chg lo hi w W2):=⟨HM.out.1.trans M2,HM.out.2.trans C2⟩
   have HD:Hid (ds[j]? = some d):=hd
   clear M2 C2 hd HM
   go_upto_region 8 with fail
   rw [← hW2]
   clear hW2 c0 c1 f0 f1 hTl
   have q2:=((HO.out.mrk HM2.out.1).at5 j d HD.out).2.2.1
   rw [hra] at q2
   have hTl:=zL W2 ⟨T,j * 5+2,none⟩ q2
   obtain ⟨⟨_,gr',hra',hrlo,hrhi,hrow⟩,_,_⟩:=((HO.out.mrk HM2.out.1).at5 j d HD.out).2.2.2.2.2
   rw [hra] at hra'
   cases hra'
   have HR:Hid (qN9 W2 gr (d.rn * 8)):=hrow
   clear hrow c2 c3 c4
   go_wp2_with fail
   refine (QZ6 lo hi gr d.rn d.rc _ W2 hrn ?h0 ?h1 ⟨hrlo,hrhi⟩ HR.out).mono ?_
   case h0=>omega
   case h1=>omega
   rintro e w3 ⟨rfl,m3,h3⟩
   have HM3:Hid (Mrk w w3∧Chg lo hi w w3):=⟨HM2.out.1.trans m3,HM2.out.2.trans h3⟩
   clear m3 h3 HM2 q2 hTl HR
   have q3:=((HO.out.mrk HM3.out.1).at5 j d HD.out).2.2.2.1
   rw [hfa] at q3
   have hTl:=zL w3 ⟨T,j * 5+3,none⟩ q3
   obtain ⟨_,⟨_,gf',hfa',hft⟩,_⟩:=((HO.out.mrk HM3.out.1).at5 j d HD.out).2.2.2.2.2
   rw [hfa] at hfa'
   cases hfa'
   have HF:Hid (qV3 lo hi w3 gf d.fn d.fs):=hft
   have hrn':(d.rn:Int)≤1048576:=by omega
   clear hft
   go_wp2_with fail
   refine (QZ9 lo hi gf d.fn d.fc _ d.fs w3 hfn ?h0 ?h1 HF.out).mono ?_
   case h0=>omega
   case h1=>omega
   rintro e w4 ⟨⟨k4,rfl,k40,k41⟩,m4,h4⟩
   have HM4:Hid (Mrk w w4∧Chg lo hi w w4):=⟨HM3.out.1.trans m4,HM3.out.2.trans h4⟩
   clear m4 h4 HM3 q3 hTl HF
   have q4:=((HO.out.mrk HM4.out.1).at5 j d HD.out).2.2.2.2.1
   rw [hca] at q4
   have hTl:=zL w4 ⟨T,j * 5+4,none⟩ q4
   obtain ⟨_,_,⟨_,gc',hca',hclo,hchi,hcrow⟩⟩:=((HO.out.mrk HM4.out.1).at5 j d HD.out).2.2.2.2.2
   rw [hca] at hca'
   cases hca'
   have HC:Hid (qN9 w4 gc d.cn):=hcrow
   have hfn':(d.fn:Int)≤1048576:=by omega
   have hcn':(d.cn:Int)≤1048576:=by omega
   clear hcrow
   go_wp2_with fail
   refine (markIntsK_c lo hi gc d.cn d.cc k4 w4 hcn (by omega) (by omega) ⟨hclo,hchi⟩ HC.out).mono ?_
   rintro e w5 ⟨rfl,m5,h5⟩
   have HM5:Hid (Mrk w w5∧Chg lo hi w w5):=⟨HM4.out.1.trans m5,HM4.out.2.trans h5⟩
   clear m5 h5 HM4 q4 hTl HC
   go_wp2_with fail
   exact ⟨⟨j+1,k4+1 * (d.cn:Int),by omega,by go_num,by congr 1;omega,⟨by omega,by simp;omega⟩,HM5.out.1,HM5.out.2⟩,by simp [intOf];omega⟩
  ·have hjn:j=n:=by omega
   subst hjn
   go_wp2_with fail
   go_ret
   exact ⟨⟨k,rfl,hk0,hk1⟩,HM.out.1,HM.out.2⟩
theorem qH4.tab {w0 w:World} {n:Nat} {cs ds:List qA3} (h:qH4 w0 w n cs ds n) (hle:∀ (k:Nat) d,ds[k]? = some d→qD8 1048576 d):qQ2 w0.heap.size w.heap.size w w0.heap.size n ds:=by
 refine ⟨h.ln,fun j d e=>?_,h.rm.2,Nat.le_refl _,h.lt⟩
 obtain ⟨a0,a1,a2,a3,a4⟩:=h.ca j d e
 have hn:=h.nw j d e
 have hl:=hle j d e
 refine ⟨⟨_,a0⟩,⟨_,a1⟩,a2,a3,a4,⟨hl.rules,?_⟩,⟨hl.forms,?_⟩,⟨hl.classes,?_⟩⟩
 ·obtain ⟨_,g,hg,hlo,hhi,hroom⟩:=hn.nw.rules
  refine ⟨g,hg,by omega,hhi,fun q hq=>?_,hroom.2⟩
  have hr:=hn.rd.rules
  rw [hg] at hr
  obtain ⟨b,off,eb,hat⟩:=hr.2 (by omega)
  cases eb
  have hx:d.zs[q / 8]? = some (d.zs[q / 8]'(by rw [hr.1];omega)):=List.getElem?_eq_getElem _
  obtain ⟨c0,c1,c2,c3,c4,c5,c6,c7⟩:=hat _ _ hx
  simp only [Nat.zero_add] at c0 c1 c2 c3 c4 c5 c6 c7
  have hm:q % 8=0∨q % 8=1∨q % 8=2∨q % 8=3∨q % 8=4∨q % 8=5∨q % 8=6∨q % 8=7:=by omega
  rcases hm with hm | hm | hm | hm | hm | hm | hm | hm
  ·exact ⟨_,by rw [show q=q / 8 * 8 by omega];exact c0⟩
  ·exact ⟨_,by rw [show q=q / 8 * 8+1 by omega];exact c1⟩
  ·exact ⟨_,by rw [show q=q / 8 * 8+2 by omega];exact c2⟩
  ·exact ⟨_,by rw [show q=q / 8 * 8+3 by omega];exact c3⟩
  ·exact ⟨_,by rw [show q=q / 8 * 8+4 by omega];exact c4⟩
  ·exact ⟨_,by rw [show q=q / 8 * 8+5 by omega];exact c5⟩
  ·exact ⟨_,by rw [show q=q / 8 * 8+6 by omega];exact c6⟩
  ·exact ⟨_,by rw [show q=q / 8 * 8+7 by omega];exact c7⟩
 ·obtain ⟨_,g,hg,hlo,hhi,hroom⟩:=hn.nw.forms
  refine ⟨g,hg,hn.rd.forms.1,fun q x hx=>⟨?_,?_⟩⟩
  ·have hf:=hn.rd.forms
   rw [hg] at hf
   have hq:q < d.fn:=by rw [← hf.1];exact (List.getElem?_eq_some_iff.1 hx).1
   obtain ⟨b,off,eb,hat⟩:=hf.2 (by omega)
   cases eb
   have:=(hat q x hx).1
   rw [Nat.zero_add] at this
   exact this
  ·obtain ⟨_,gp,hgp,hplo,hphi,hproom⟩:=hn.nw.parts q x hx
   refine ⟨hl.parts q x hx,gp,hgp,by omega,hphi,fun r hr=>?_,hproom.2⟩
   have hf:=hn.rd.forms
   have hq:q < d.fn:=by rw [← hf.1];exact (List.getElem?_eq_some_iff.1 hx).1
   obtain ⟨b,off,eb,hat⟩:=hf.2 (by omega)
   have hp:=(hat q x hx).2
   rw [hgp] at hp
   obtain ⟨b',off',eb',hat'⟩:=hp.2 (by omega)
   cases eb'
   have hy:x.ps[r / 5]? = some (x.ps[r / 5]'(by rw [hp.1];omega)):=List.getElem?_eq_getElem _
   obtain ⟨c0,c1,c2,c3,c4⟩:=hat' _ _ hy
   simp only [Nat.zero_add] at c0 c1 c2 c3 c4
   have hm:r % 5=0∨r % 5=1∨r % 5=2∨r % 5=3∨r % 5=4:=by omega
   rcases hm with hm | hm | hm | hm | hm
   ·exact ⟨_,by rw [show r=r / 5 * 5 by omega];exact c0⟩
   ·exact ⟨_,by rw [show r=r / 5 * 5+1 by omega];exact c1⟩
   ·exact ⟨_,by rw [show r=r / 5 * 5+2 by omega];exact c2⟩
   ·exact ⟨_,by rw [show r=r / 5 * 5+3 by omega];exact c3⟩
   ·exact ⟨_,by rw [show r=r / 5 * 5+4 by omega];exact c4⟩
 ·obtain ⟨_,g,hg,hlo,hhi,hroom⟩:=hn.nw.classes
  refine ⟨g,hg,by omega,hhi,fun q hq=>?_,hroom.2⟩
  have hr:=hn.rd.classes
  rw [hg] at hr
  obtain ⟨b,off,eb,hat⟩:=hr.2 (by omega)
  cases eb
  have hx:d.cs[q]? = some (d.cs[q]'(by rw [hr.1];omega)):=List.getElem?_eq_getElem _
  have:=hat _ _ hx
  rw [Nat.zero_add] at this
  exact ⟨_,this⟩

structure qP6 (cs ds:List qA3):Prop where
 ln:ds.length=cs.length
 sm:∀ (j:Nat) c d,cs[j]? = some c→ds[j]? = some d→qH8 c d
theorem code_same {c d:qA3} (h:qH8 c d):qV1 d=qV1 c:=by
 unfold qV1
 rw [h.e,h.f,h.zs,h.ps,h.cs]
theorem qP6.get {cs ds:List qA3} (h:qP6 cs ds) {j:Nat} {d:qA3} (e:ds[j]? = some d):∃ c,cs[j]? = some c∧qH8 c d:=by
 have hj:=(List.getElem?_eq_some_iff.1 e).1
 rw [h.ln] at hj
 exact ⟨_,List.getElem?_eq_getElem hj,h.sm j _ d (List.getElem?_eq_getElem hj) e⟩
theorem qP6.f0 {cs ds:List qA3} (h:qP6 cs ds):(ds[0]?.getD default).f=(cs[0]?.getD default).f:=by
 cases e:ds[0]? with
 | none =>
  have : ds.length≤0:=by simpa using e
  have e2:cs[0]? = none:=List.getElem?_eq_none (by rw [← h.ln];exact this)
  rw [e2]
 | some d =>
  obtain ⟨c,hc,hs⟩:=h.get e
  rw [hc]
  exact hs.f
theorem QY1 {cs ds:List qA3} (h:qP6 cs ds):∀ k,qK0 ds k=qK0 cs k
 | 0=>rfl
 | k+1=>by
  have ih:=QY1 h k
  show (if qK0 ds k=0 then (match ds[k]? with
   | none=>0
   | some c=>if qV1 c=0 then (if c.f=(ds[0]?.getD default).f then 0 else 1) else qV1 c) else qK0 ds k)=_
  rw [ih]
  by_cases q:qK0 cs k=0
  ·rw [if_pos q]
   cases e:ds[k]? with
   | none =>
    have : ds.length≤k:=by simpa using e
    have e2:cs[k]? = none:=List.getElem?_eq_none (by rw [← h.ln];exact this)
    rw [qK0,if_pos q,e2]
   | some d =>
    obtain ⟨c,hc,hs⟩:=h.get e
    rw [QA6 hc q]
    simp only
    rw [code_same hs,hs.f,h.f0]
  ·rw [if_neg q,qK0,if_neg q]
theorem qP6.cfs {cs ds:List qA3} (h:qP6 cs ds):qB5 ds=qB5 cs:=by
 unfold qB5
 rw [h.ln,QY1 h]
theorem qH4.same {w0 w:World} {n:Nat} {cs ds:List qA3} (h:qH4 w0 w n cs ds n) (hc:cs.length=n):qP6 cs ds:=⟨h.ln.trans hc.symm,h.sm⟩
theorem qH4.le {w0 w wA:World} {a:Option Addr} {n:Nat} {cs ds:List qA3} (h:qH4 w0 w n cs ds n) (hn:n≤1048576) (hi:qA6 wA a n cs) (hl:∀ (k:Nat) c,cs[k]? = some c→qD8 1048576 c):qE7 1048576 ds:=by
 have hS:=h.same hi.len
 refine ⟨fun k d e=>?_,fun k d e=>?_⟩
 ·obtain ⟨c,hc,hs⟩:=hS.get e
  exact hs.le (hi.each k c hc) (h.nw k d e).rd (hl k c hc)
 ·obtain ⟨c,hc,hs⟩:=hS.get e
  have q:=(h.nw k d e).nw.rules.1
  have hl2:=(hs.le (hi.each k c hc) (h.nw k d e).rd (hl k c hc)).rules
  refine ⟨(h.nw k d e).nw.cap,?_⟩
  rw [q]
  unfold maxLen
  omega
theorem QQ6 {cs ds es:List qA3} (h:qP6 cs ds) (g:qP6 cs es):∀ (j:Nat) c d,ds[j]? = some c→es[j]? = some d→qH8 c d:=fun j c d e1 e2=>by
 obtain ⟨x,hx,hs⟩:=h.get e1
 exact hs.trans (g.sm j x d hx e2)

theorem QQ1.below {lo hi:Nat} {w w':World} {x:qE9} (h:QQ1 lo hi w x) (hh:hi≤w.heap.size) (hb:Below w.heap.size w w'):QQ1 lo hi w' x:=by
 obtain ⟨h0,g,h1,h2,h3,h4⟩:=h
 exact ⟨h0,g,h1,h2,h3,h4.below (by omega) hb⟩
theorem qV3.below {lo hi:Nat} {w w':World} {g n:Nat} {fs:List qE9} (h:qV3 lo hi w g n fs) (hh:hi≤w.heap.size) (hb:Below w.heap.size w w'):qV3 lo hi w' g n fs :=
 ⟨h.1,fun j x e=>⟨(hb.cell (p:=⟨g,j,none⟩) (zL w ⟨g,j,none⟩ (h.2 j x e).1)).trans (h.2 j x e).1,(h.2 j x e).2.below hh hb⟩⟩
theorem ConfK.below {lo hi:Nat} {w w':World} {d:qA3} (h:ConfK lo hi w d) (hh:hi≤w.heap.size) (hb:Below w.heap.size w w'):ConfK lo hi w' d:=by
 obtain ⟨⟨a0,g,a1,a2,a3,a4⟩,⟨b0,g',b1,b2⟩,⟨c0,g'',c1,c2,c3,c4⟩⟩:=h
 exact ⟨⟨a0,g,a1,a2,a3,a4.below (by omega) hb⟩,⟨b0,g',b1,b2.below hh hb⟩,⟨c0,g'',c1,c2,c3,c4.below (by omega) hb⟩⟩
theorem qQ2.below {lo hi:Nat} {w w':World} {T n:Nat} {ds:List qA3} (h:qQ2 lo hi w T n ds) (hh:hi≤w.heap.size) (hb:Below w.heap.size w w'):qQ2 lo hi w' T n ds:=by
 have hT:T < w.heap.size:=by have:=h.lo.2;omega
 refine ⟨h.ln,fun j d e=>?_,fun o=>(hb.frozen (p:=⟨T,o,none⟩) hT).trans (h.fr o),h.lo⟩
 obtain ⟨⟨x,h0⟩,⟨y,h1⟩,h2,h3,h4,h5⟩:=h.at5 j d e
 have k:∀ o,w'.cell? ⟨T,o,none⟩=w.cell? ⟨T,o,none⟩:=fun o=>hb.cell (p:=⟨T,o,none⟩) hT
 exact ⟨⟨x,(k _).trans h0⟩,⟨y,(k _).trans h1⟩,(k _).trans h2,(k _).trans h3,(k _).trans h4,h5.below hh hb⟩
def CpB (lo hi n:Nat) (cs:List qA3) (X:World):Prop:=∃ ds,qA6 X (some ⟨lo,0,none⟩) n ds∧qP6 cs ds∧qE7 1048576 ds∧qQ2 lo hi X lo n ds∧hi≤X.heap.size
theorem qH4.cpB {w0 w wA:World} {a:Option Addr} {n:Nat} {cs ds:List qA3} (h:qH4 w0 w n cs ds n) (hn:n≤1048576) (hi:qA6 wA a n cs) (hl:∀ (k:Nat) c,cs[k]? = some c→qD8 1048576 c):qK1 (CpB w0.heap.size w.heap.size n cs) w :=
 ⟨⟨ds,h.isIn,h.same hi.len,h.le hn hi hl,h.tab (h.le hn hi hl).1,Nat.le_refl _⟩,fun X X' hX hb=>by
  obtain ⟨es,h1,h2,h3,h4,h5⟩:=hX
  exact ⟨es,h1.below hb,h2,h3,h4.below h5 hb,Nat.le_trans h5 hb.size⟩⟩
theorem eqCpB_c {lo hi lo' hi' n:Nat} {cs:List qA3} (ca cb:Nat) {W:World} (hn:n≤1048576) (h:CpB lo hi n cs W) (h':CpB lo' hi' n cs W) :
  Calls Tryz.prog 15 #[.slice (some ⟨lo,0,none⟩) n ca,.slice (some ⟨lo',0,none⟩) n cb] W fun e w'=>e = .returned (.bool true)∧Below W.heap.size W w':=by
 obtain ⟨ds,h1,h2,h3,_,_⟩:=h
 obtain ⟨es,k1,k2,_,_,_⟩:=h'
 exact QP6 _ _ n ca cb ds es W hn h3.1 (QQ6 h2 k2) h1 k1

section
open Go.RowKit Go.ChangeShapes Go.WideShapes
theorem Tryz.cells136:Tryz.prog.cellsOf 136=1:=by kernel_rfl
theorem Tryz.cells63:Tryz.prog.cellsOf 63=5:=by kernel_rfl
theorem Tryz.cells134:Tryz.prog.cellsOf 134=1:=by kernel_rfl
theorem Tryz.cells59:Tryz.prog.cellsOf 59=1:=by kernel_rfl
theorem Tryz.cells60:Tryz.prog.cellsOf 60=1:=by kernel_rfl
theorem Tryz.cells61:Tryz.prog.cellsOf 61=1:=by kernel_rfl
theorem list1 {α:Type} {l:List α} (h:l.length=1):∃ a,l=[a]:=by
 match l,h with
 | [a],_=>exact ⟨a,rfl⟩
theorem cell1 {w:World} {base:Nat} {a:Addr} {v:Value} (h:w.cells? base a 1=some [v]):a.spot=none∧w.cell? ⟨a.block,a.off,none⟩=some v:=by
 have e:List.range 1=[0]:=rfl
 unfold World.cells? at h
 split at h
 ·rw [e] at h
  simp only [List.mapM_cons,List.mapM_nil,Option.bind_eq_bind,Option.bind_eq_some_iff,Option.pure_def,Option.some.injEq,List.cons.injEq] at h
  obtain ⟨x0,h0,y0,rfl,e0,ee⟩:=h
  subst e0
  obtain ⟨b,off,spot⟩:=a
  have hspot:spot=none:=by simpa [Addr.add] using World.cell?_spot h0
  subst hspot
  simp only [Addr.add] at h0
  exact ⟨rfl,by simpa using h0⟩
 ·cases h
theorem parts_val {H:Type} {enc:TypeId × Value→H} {w:World} {base:Nat} {spare:Nat→Bool} {held:Bool} {fuel:Nat} {cs:List Value} {x:DataW H × List MemPlace} (h:DataW.trod enc Tryz.prog w base spare held fuel 134 cs=some x) :
  ∃ a n c,cs=[.slice a n c]:=by
 rcases Go.Deep.open_slice Tryz.underlying134 h with ⟨hcs,_⟩ | ⟨a,l,c,m,n,D,Pl,hcs,_⟩
 ·exact ⟨_,_,_,hcs⟩
 ·exact ⟨_,_,_,hcs⟩
theorem rules_val {H:Type} {enc:TypeId × Value→H} {w:World} {base:Nat} {spare:Nat→Bool} {held:Bool} {fuel:Nat} {cs:List Value} {x:DataW H × List MemPlace} (h:DataW.trod enc Tryz.prog w base spare held fuel 59 cs=some x) :
  ∃ a n c,cs=[.slice a n c]:=by
 rcases Go.Deep.open_slice Tryz.underlying59 h with ⟨hcs,_⟩ | ⟨a,l,c,m,n,D,Pl,hcs,_⟩
 ·exact ⟨_,_,_,hcs⟩
 ·exact ⟨_,_,_,hcs⟩
theorem forms_val {H:Type} {enc:TypeId × Value→H} {w:World} {base:Nat} {spare:Nat→Bool} {held:Bool} {fuel:Nat} {cs:List Value} {x:DataW H × List MemPlace} (h:DataW.trod enc Tryz.prog w base spare held fuel 60 cs=some x) :
  ∃ a n c,cs=[.slice a n c]:=by
 rcases Go.Deep.open_slice Tryz.underlying60 h with ⟨hcs,_⟩ | ⟨a,l,c,m,n,D,Pl,hcs,_⟩
 ·exact ⟨_,_,_,hcs⟩
 ·exact ⟨_,_,_,hcs⟩
theorem ints_val {H:Type} {enc:TypeId × Value→H} {w:World} {base:Nat} {spare:Nat→Bool} {held:Bool} {fuel:Nat} {cs:List Value} {x:DataW H × List MemPlace} (h:DataW.trod enc Tryz.prog w base spare held fuel 61 cs=some x) :
  ∃ a n c,cs=[.slice a n c]:=by
 rcases Go.Deep.open_slice Tryz.underlying61 h with ⟨hcs,_⟩ | ⟨a,l,c,m,n,D,Pl,hcs,_⟩
 ·exact ⟨_,_,_,hcs⟩
 ·exact ⟨_,_,_,hcs⟩
theorem ints_shape {H:Type} {enc:TypeId × Value→H} {w:World} {base:Nat} {spare:Nat→Bool} {held:Bool} {fuel:Nat} {a0:Option Addr} {len cap:Nat} {x:DataW H × List MemPlace} (h:DataW.trod enc Tryz.prog w base spare held fuel 61 [.slice a0 len cap]=some x) :
  ∃ zs:List Int,qG8 w a0 len zs∧len≤maxLen:=by
 rcases Go.Deep.open_slice Tryz.underlying61 h with ⟨hcs,_⟩ | ⟨a,l,c,m,n,D,Pl,hcs,hb,hl,hm,hmm,_,hel⟩
 ·simp at hcs
  obtain ⟨rfl,rfl,rfl⟩:=hcs
  exact ⟨[],⟨rfl,fun h=>by omega⟩,Nat.zero_le _⟩
 ·simp at hcs
  obtain ⟨rfl,rfl,rfl⟩:=hcs
  have hle:len≤m:=by rw [hmm];split <;> omega
  rw [Tryz.cells2] at hel
  have hk:∀ i,i < len→∃ r:Int,w.cells? base (a.add (i * 1)) 1=some [.int .i64 r]:=fun i hi=>by
   obtain ⟨cs',hc,ht⟩:=hel i (by omega)
   obtain ⟨k,e0,_,_⟩:=DataW.trod_int Tryz.underlying2 ht
   exact ⟨k,by rw [hc,e0]⟩
  obtain ⟨f,hf⟩:=Go.Deep.choose_lt hk
  refine ⟨(List.range len).map f,⟨by simp,fun hp=>?_⟩,Nat.le_trans hl hm⟩
  obtain ⟨hsp,_⟩:=cell1 (hf 0 hp)
  obtain ⟨b,off,spot⟩:=a
  simp [Addr.add] at hsp
  subst hsp
  refine ⟨b,off,rfl,fun k r e=>?_⟩
  have hkl:k < len:=by
   by_cases q:k < len
   ·exact q
   ·rw [List.getElem?_eq_none (by simp;omega)] at e;cases e
  rw [List.getElem?_map,List.getElem?_range hkl] at e
  simp at e
  subst e
  obtain ⟨_,hr⟩:=cell1 (hf k hkl)
  have : ((⟨b,off,none⟩:Addr).add (k * 1))=⟨b,off+k * 1,none⟩:=Go.WideShapes.add_plain ..
  rw [this,Nat.mul_one] at hr
  exact hr
theorem form_list {H:Type} {enc:TypeId × Value→H} {w:World} {base:Nat} {spare:Nat→Bool} {held:Bool} {fuel:Nat} {cs:List Value} {x:DataW H × List MemPlace} (h:DataW.trod enc Tryz.prog w base spare held fuel 136 cs=some x) :
  ∃ r:qE9,cs=[.slice r.a r.n r.cap]∧QW8 w r.a r.n r.ps:=by
 obtain ⟨xs,n,_,_,hl,hlen,hf⟩:=DataW.trod_struct Tryz.underlying136 h
 rw [Tryz.cells136] at hl
 obtain ⟨c0,rfl⟩:=list1 hl
 obtain ⟨y0,rfl⟩:=list1 hlen
 have g0:=hf 0 _ rfl
 simp [Tryz.cells134] at g0
 obtain ⟨a,n',c',e⟩:=parts_val g0
 simp at e
 subst e
 obtain ⟨zs,hz⟩:=parts_shape g0
 exact ⟨⟨a,n',c',zs⟩,rfl,hz⟩
theorem forms_shape {H:Type} {enc:TypeId × Value→H} {w:World} {base:Nat} {spare:Nat→Bool} {held:Bool} {fuel:Nat} {a0:Option Addr} {len cap:Nat} {x:DataW H × List MemPlace} (h:DataW.trod enc Tryz.prog w base spare held fuel 60 [.slice a0 len cap]=some x) :
  ∃ fs:List qE9,qF9 w a0 len fs∧len≤maxLen∧qM4 maxLen fs:=by
 rcases Go.Deep.open_slice Tryz.underlying60 h with ⟨hcs,_⟩ | ⟨a,l,c,m,n,D,Pl,hcs,hb,hl,hm,hmm,_,hel⟩
 ·simp at hcs
  obtain ⟨rfl,rfl,rfl⟩:=hcs
  exact ⟨[],⟨rfl,fun h=>by omega⟩,Nat.zero_le _,fun k x e=>by simp at e⟩
 ·simp at hcs
  obtain ⟨rfl,rfl,rfl⟩:=hcs
  have hle:len≤m:=by rw [hmm];split <;> omega
  rw [Tryz.cells136] at hel
  have hk:∀ i,i < len→∃ r:qE9,w.cells? base (a.add (i * 1)) 1=some [.slice r.a r.n r.cap]∧QW8 w r.a r.n r.ps:=fun i hi=>by
   obtain ⟨cs',hc,ht⟩:=hel i (by omega)
   obtain ⟨r,rfl,hr⟩:=form_list ht
   exact ⟨r,hc,hr⟩
  obtain ⟨f,hf⟩:=Go.Deep.choose_lt hk
  have key:∀ (k:Nat) (r:qE9),((List.range len).map f)[k]? = some r→k < len∧r=f k:=fun k r e=>by
   have hkl:k < len:=by
    by_cases q:k < len
    ·exact q
    ·rw [List.getElem?_eq_none (by simp;omega)] at e;cases e
   rw [List.getElem?_map,List.getElem?_range hkl] at e
   simp at e
   exact ⟨hkl,e.symm⟩
  refine ⟨(List.range len).map f,⟨by simp,fun hp=>?_⟩,Nat.le_trans hl hm,fun k r e=>?_⟩
  ·obtain ⟨hsp,_⟩:=cell1 (hf 0 hp).1
   obtain ⟨b,off,spot⟩:=a
   simp [Addr.add] at hsp
   subst hsp
   refine ⟨b,off,rfl,fun k r e=>?_⟩
   obtain ⟨hkl,rfl⟩:=key k r e
   obtain ⟨_,hr⟩:=cell1 (hf k hkl).1
   have : ((⟨b,off,none⟩:Addr).add (k * 1))=⟨b,off+k * 1,none⟩:=Go.WideShapes.add_plain ..
   rw [this,Nat.mul_one] at hr
   exact ⟨hr,(hf k hkl).2.1⟩
  ·obtain ⟨hkl,rfl⟩:=key k r e
   exact (hf k hkl).2.2
theorem conf_list {H:Type} {enc:TypeId × Value→H} {w:World} {base:Nat} {spare:Nat→Bool} {held:Bool} {fuel:Nat} {cs:List Value} {x:DataW H × List MemPlace} (h:DataW.trod enc Tryz.prog w base spare held fuel 63 cs=some x) :
  ∃ c:qA3,cs=[.int .i64 c.e,.int .i64 c.f,.slice c.ra c.rn c.rc,.slice c.fa c.fn c.fc,.slice c.ca c.cn c.cc]∧qF5 w c∧qD8 maxLen c:=by
 obtain ⟨xs,n,_,_,hl,hlen,hf⟩:=DataW.trod_struct Tryz.underlying63 h
 rw [Tryz.cells63] at hl
 obtain ⟨c0,c1,c2,c3,c4,rfl⟩:=list5 hl
 obtain ⟨y0,y1,y2,y3,y4,rfl⟩:=list5 hlen
 have g0:=hf 0 _ rfl
 have g1:=hf 1 _ rfl
 have g2:=hf 2 _ rfl
 have g3:=hf 3 _ rfl
 have g4:=hf 4 _ rfl
 simp [Tryz.cells2,Tryz.cells59,Tryz.cells60,Tryz.cells61] at g0 g1 g2 g3 g4
 obtain ⟨e0,q0,_,_⟩:=DataW.trod_int Tryz.underlying2 g0
 obtain ⟨e1,q1,_,_⟩:=DataW.trod_int Tryz.underlying2 g1
 obtain ⟨ra,rn,rc,q2⟩:=rules_val g2
 obtain ⟨fa,fn,fc,q3⟩:=forms_val g3
 obtain ⟨ca,cn,cc,q4⟩:=ints_val g4
 simp at q0 q1 q2 q3 q4
 subst q0 q1 q2 q3 q4
 obtain ⟨zs,hz⟩:=rules_shape g2
 obtain ⟨fs,hf1,hf2,hf3⟩:=forms_shape g3
 obtain ⟨cs,hc1,hc2⟩:=ints_shape g4
 exact ⟨⟨e0,e1,ra,rn,rc,zs,fa,fn,fc,fs,ca,cn,cc,cs⟩,rfl,⟨hz.1,hf1,hc1⟩,⟨hz.2,hf2,hf3,hc2⟩⟩
end

section
open Go.RowKit Go.ChangeShapes Go.WideShapes
theorem cellsCf {w:World} {base:Nat} {a:Addr} {r:qA3} (h:w.cells? base a 5=some [.int .i64 r.e,.int .i64 r.f,.slice r.ra r.rn r.rc,.slice r.fa r.fn r.fc,.slice r.ca r.cn r.cc]):a.spot=none∧qI7 w a.block a.off r:=by
 have e:List.range 5=[0,1,2,3,4]:=rfl
 unfold World.cells? at h
 split at h
 ·rw [e] at h
  simp only [List.mapM_cons,List.mapM_nil,Option.bind_eq_bind,Option.bind_eq_some_iff,Option.pure_def,Option.some.injEq,List.cons.injEq] at h
  obtain ⟨x0,h0,y0,⟨x1,h1,y1,⟨x2,h2,y2,⟨x3,h3,y3,⟨x4,h4,y4,rfl,e4⟩,e3⟩,e2⟩,e1⟩,e0,ee⟩:=h
  subst e0
  rw [← e1] at ee
  simp only [List.cons.injEq] at ee
  obtain ⟨rfl,ee⟩:=ee
  rw [← e2] at ee
  simp only [List.cons.injEq] at ee
  obtain ⟨rfl,ee⟩:=ee
  rw [← e3] at ee
  simp only [List.cons.injEq] at ee
  obtain ⟨rfl,ee⟩:=ee
  rw [← e4] at ee
  simp only [List.cons.injEq] at ee
  obtain ⟨rfl,_⟩:=ee
  obtain ⟨b,off,spot⟩:=a
  have hspot:spot=none:=by simpa [Addr.add] using World.cell?_spot h0
  subst hspot
  simp only [Addr.add] at h0 h1 h2 h3 h4
  exact ⟨rfl,by simpa using h0,by simpa using h1,by simpa using h2,by simpa using h3,by simpa using h4⟩
 ·cases h
def QJ1 (w:World) (a:Option Addr) (n:Nat) (cs:List qA3):Prop:=qA6 w a n cs∧n≤maxLen∧∀ (k:Nat) c,cs[k]? = some c→qD8 maxLen c
theorem QV9 {H:Type} {enc:TypeId × Value→H} {w:World} {base:Nat} {spare:Nat→Bool} {held:Bool} {fuel:Nat} {a0:Option Addr} {len cap:Nat} {x:DataW H × List MemPlace} (h:DataW.trod enc Tryz.prog w base spare held fuel 26 [.slice a0 len cap]=some x) :
  ∃ cs:List qA3,QJ1 w a0 len cs:=by
 rcases Go.Deep.open_slice Tryz.underlying26 h with ⟨hcs,_⟩ | ⟨a,l,c,m,n,D,Pl,hcs,hb,hl,hm,hmm,_,hel⟩
 ·simp at hcs
  obtain ⟨rfl,rfl,rfl⟩:=hcs
  exact ⟨[],⟨rfl,fun h=>by omega,fun k c e=>by simp at e⟩,Nat.zero_le _,fun k c e=>by simp at e⟩
 ·simp at hcs
  obtain ⟨rfl,rfl,rfl⟩:=hcs
  have hle:len≤m:=by rw [hmm];split <;> omega
  rw [Tryz.cells63] at hel
  have hk:∀ i,i < len→∃ r:qA3,w.cells? base (a.add (i * 5)) 5=some [.int .i64 r.e,.int .i64 r.f,.slice r.ra r.rn r.rc,.slice r.fa r.fn r.fc,.slice r.ca r.cn r.cc]∧qF5 w r∧qD8 maxLen r:=fun i hi=>by
   obtain ⟨cs',hc,ht⟩:=hel i (by omega)
   obtain ⟨r,rfl,hr⟩:=conf_list ht
   exact ⟨r,hc,hr⟩
  obtain ⟨f,hf⟩:=Go.Deep.choose_lt hk
  have key:∀ (k:Nat) (r:qA3),((List.range len).map f)[k]? = some r→k < len∧r=f k:=fun k r e=>by
   have hkl:k < len:=by
    by_cases q:k < len
    ·exact q
    ·rw [List.getElem?_eq_none (by simp;omega)] at e;cases e
   rw [List.getElem?_map,List.getElem?_range hkl] at e
   simp at e
   exact ⟨hkl,e.symm⟩
  refine ⟨(List.range len).map f,⟨by simp,fun hp=>?_,fun k r e=>?_⟩,Nat.le_trans hl hm,fun k r e=>?_⟩
  ·obtain ⟨hsp,_⟩:=cellsCf (hf 0 hp).1
   obtain ⟨b,off,spot⟩:=a
   simp [Addr.add] at hsp
   subst hsp
   refine ⟨b,off,rfl,fun k r e=>?_⟩
   obtain ⟨hkl,rfl⟩:=key k r e
   obtain ⟨_,hr⟩:=cellsCf (hf k hkl).1
   have : ((⟨b,off,none⟩:Addr).add (k * 5))=⟨b,off+k * 5,none⟩:=Go.WideShapes.add_plain ..
   rw [this] at hr
   exact hr
  ·obtain ⟨hkl,rfl⟩:=key k r e
   exact (hf k hkl).2.1
  ·obtain ⟨hkl,rfl⟩:=key k r e
   exact (hf k hkl).2.2
end

structure TabL (lo hi:Nat) (w:World) (T n:Nat) (ds:List qA3):Prop where
 tab:qQ2 lo hi w T n ds
 fa:∀ (j:Nat) d,ds[j]? = some d→∀ g,d.fa=some ⟨g,0,none⟩→lo≤g∧g < hi
theorem qN9.blk {w w':World} {g m:Nat} (h:qN9 w g m) (hb:w'.heap[g]? = w.heap[g]?):qN9 w' g m :=
 ⟨fun j hj=>by obtain ⟨x,e⟩:=h.1 j hj;exact ⟨x,(World.cell?_of_block (a:=⟨g,j,none⟩) hb).trans e⟩,fun j=>(World.frozen?_of_block (a:=⟨g,j,none⟩) hb).trans (h.2 j)⟩
theorem QQ1.blk {lo hi:Nat} {w w':World} {x:qE9} (h:QQ1 lo hi w x) (hk:∀ b,lo≤b→b < hi→w'.heap[b]? = w.heap[b]?):QQ1 lo hi w' x:=by
 obtain ⟨h0,g,h1,h2,h3,h4⟩:=h
 exact ⟨h0,g,h1,h2,h3,h4.blk (hk g h2 h3)⟩
theorem TabL.blk {lo hi:Nat} {w w':World} {T n:Nat} {ds:List qA3} (h:TabL lo hi w T n ds) (hk:∀ b,lo≤b→b < hi→w'.heap[b]? = w.heap[b]?):TabL lo hi w' T n ds:=by
 have hT:=hk T h.tab.lo.1 h.tab.lo.2
 have k:∀ o,w'.cell? ⟨T,o,none⟩=w.cell? ⟨T,o,none⟩:=fun o=>World.cell?_of_block (a:=⟨T,o,none⟩) hT
 refine ⟨⟨h.tab.ln,fun j d e=>?_,fun o=>(World.frozen?_of_block (a:=⟨T,o,none⟩) hT).trans (h.tab.fr o),h.tab.lo⟩,h.fa⟩
 obtain ⟨⟨x,h0⟩,⟨y,h1⟩,h2,h3,h4,⟨⟨a0,g,a1,a2,a3,a4⟩,⟨b0,g',b1,b2⟩,⟨c0,g'',c1,c2,c3,c4⟩⟩⟩:=h.tab.at5 j d e
 have hg':=h.fa j d e g' b1
 refine ⟨⟨x,(k _).trans h0⟩,⟨y,(k _).trans h1⟩,(k _).trans h2,(k _).trans h3,(k _).trans h4,⟨⟨a0,g,a1,a2,a3,a4.blk (hk g a2 a3)⟩,⟨b0,g',b1,b2.1,fun q z hz=>⟨(World.cell?_of_block (a:=⟨g',q,none⟩) (hk g' hg'.1 hg'.2)).trans (b2.2 q z hz).1,(b2.2 q z hz).2.blk hk⟩⟩,⟨c0,g'',c1,c2,c3,c4.blk (hk g'' c2 c3)⟩⟩⟩
theorem qH4.tabH {w0 w wA:World} {a:Option Addr} {n:Nat} {cs ds:List qA3} (h:qH4 w0 w n cs ds n) (hn:n≤1048576) (hi:qA6 wA a n cs) (hl:∀ (k:Nat) c,cs[k]? = some c→qD8 1048576 c):qB9 w0.heap.size w.heap.size (fun X=>∃ ds,TabL w0.heap.size w.heap.size X w0.heap.size n ds) w:=by
 refine ⟨⟨ds,h.tab (h.le hn hi hl).1,fun j d e g hg=>?_⟩,Nat.le_refl _,fun X X' hX hk=>?_⟩
 ·obtain ⟨_,g',hg',hlo,hhi,_⟩:=(h.nw j d e).nw.forms
  rw [hg] at hg'
  cases hg'
  exact ⟨by omega,hhi⟩
 ·obtain ⟨es,h1⟩:=hX
  exact ⟨es,h1.blk hk⟩
theorem markTab_c {lo hi n:Nat} (ca:Nat) (k0:Int) {W:World} (hn:n≤1048576) (h0:0≤k0) (h1:k0≤1000000000000000000) (h:∃ ds,TabL lo hi W lo n ds) :
  Calls Tryz.prog 23 #[.slice (some ⟨lo,0,none⟩) n ca,.int .i64 k0] W fun e w'=>∃ k:Int,e = .returned (.int .i64 k)∧(k0≤k∧k≤k0+5497567576066 * (n:Int))∧Chg lo hi W w':=by
 obtain ⟨ds,h4⟩:=h
 refine (QP2 lo hi lo n ca k0 ds W hn h0 h1 h4.tab).mono ?_
 rintro e w' ⟨⟨k,rfl,k1,k2⟩,_,hc⟩
 exact ⟨k,rfl,⟨k1,k2⟩,hc⟩

end Go.Proofs.YtlhgjackapdmbaaGreatDoor
