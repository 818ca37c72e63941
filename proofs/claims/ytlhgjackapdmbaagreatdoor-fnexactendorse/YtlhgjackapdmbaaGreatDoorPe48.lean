/- Contracts. -/
import Derived.Test.YtlhgjackapdmbaaGreatDoorPe40
import Derived.OpenShut
import Derived.ChangeSame
import Derived.Deep.Slices
namespace Go.Proofs.YtlhgjackapdmbaaGreatDoor
set_option maxRecDepth 100000
set_option maxHeartbeats 8000000
open Go.RowKit
set_option linter.unusedVariables false
set_option linter.unusedSimpArgs false

theorem QN5 {m m':Nat} {c:qA5} (h:qD7 m c) (hm:m≤m'):qD7 m' c:=by
 obtain ⟨a1,a2,a3,a4⟩:=h
 exact ⟨by omega,by omega,fun k x e=>Nat.le_trans (a3 k x e) hm,by omega⟩
theorem szConfigs_c (a:Option Addr) (n cap:Nat) (fs:List qA5) (l:Int) (w:World) (hn:n≤maxLen) (hle:∀ (k:Nat) c,fs[k]? = some c→qD7 maxLen c) (h0:0≤l) (h1:l≤1048576) (h:qA7 w a n fs) :
  Calls Tryz.prog 9 #[.slice a n cap,.int .i64 l] w fun e w'=>(∃ r:Int,e = .returned (.int .i64 r)∧r≤l∧(0≤r→(n:Int)≤l∧(∀ (k:Nat) c,fs[k]? = some c→qD7 l.toNat c)))∧Below w.heap.size w w':=by
 have H:Hid (qA7 w a n fs):=h
 have HZ:Hid (fs.length=n):=h.len
 have HLE:Hid (∀ (k:Nat) c,fs[k]? = some c→qD7 maxLen c):=hle
 have hn':(n:Int)≤9223372036854775807:=by unfold maxLen at hn;omega
 clear h hle hn
 by_cases hlt:(n:Int)≤l
 ·go_enter Tryz.func9,Tryz.ntmps9
  go_wp2
  go_loopw [1,5] (fun q i wr=>∃ (k:Nat) (r:Int),k≤n∧i = .int .i64 (k:Int)∧q = .int .i64 r∧0≤r∧r≤l∧(∀ j x,j < k→fs[j]? = some x→qD7 l.toNat x)∧Below w.heap.size w wr)
   (fun _ i _=>n - (intOf i).toNat)
  case atStart=>exact ⟨0,_,Nat.zero_le _,rfl,rfl,by omega,by omega,fun j x hj=>by omega,Below.refl _ _⟩
  case round =>
   obtain ⟨k,r,hk,rfl,rfl,hr0,hr1,hok,hnx⟩:=hrel
   have HOK:Hid (∀ j x,j < k→fs[j]? = some x→qD7 l.toNat x):=hok
   clear hok
   by_cases hkn:k < n
   ·obtain ⟨b,off,x,rfl,hs,hr,hci⟩:=H.out.at hkn
    have HS:Hid (fs[k]? = some x):=hs
    have hx:qD7 maxLen x:=HLE.out k x hs
    have HCI:Hid (qF7 wr x):=((H.out.below (hnx.mono (Nat.le_refl _))).each k x hs)
    have hb:b < w.heap.size:=hr.lt
    obtain ⟨c0,c1,c2,c3,c4⟩:=hr.below hnx
    clear hs hr hci
    have hkn':(k:Int) < (n:Int):=by omega
    go_wp2_with fail
    refine (szConfig_c x r _ hx hr0 (by omega) HCI.out).mono ?_
    rintro e w1 ⟨⟨r',rfl,hr'1,hr'2⟩,hb1⟩
    have hb01:Below w.heap.size w w1:=hnx.trans (hb1.mono hnx.size)
    by_cases hneg:r' < 0
    ·clear c0 c1 c2 c3 c4
     go_wp2
     go_ret
     exact ⟨⟨_,rfl,by omega,fun q=>by omega⟩,hb01⟩
    ·have HN:Hid (∀ j y,j < k+1→fs[j]? = some y→qD7 l.toNat y):=fun j y hj hy=>by
      by_cases e:j=k
      ·subst e
       rw [HS.out] at hy
       cases hy
       exact QN5 (hr'2 (by omega)) (by omega)
      ·exact HOK.out j y (by omega) hy
     have hge:0≤r':=by omega
     clear c0 c1 c2 c3 c4 hr'2
     go_wp2
     exact ⟨⟨k+1,r',by omega,by go_num,rfl,hge,by omega,HN.out,hb01⟩,by simp [intOf];omega⟩
   ·have hkn':k=n:=by omega
    subst hkn'
    have HQ:Hid (∀ (k:Nat) c,fs[k]? = some c→qD7 l.toNat c):=fun j x hj=>by
     have : j < k:=by
      by_cases q:j < k
      ·exact q
      ·rw [List.getElem?_eq_none (by rw [HZ.out];omega)] at hj;cases hj
     exact HOK.out j x this hj
    go_wp2
    go_ret
    exact ⟨⟨r,rfl,hr1,fun _=>⟨hlt,HQ.out⟩⟩,hnx⟩
 ·have hlt':l < (n:Int):=by omega
  go_enter Tryz.func9,Tryz.ntmps9
  go_wp2
  go_ret
  exact ⟨⟨_,rfl,by omega,fun q=>by omega⟩,by go_grown⟩

theorem Tryz.infoCf:(Tryz.prog.info? 71).map (fun i=>(i.zero,i.size,i.bytes))=some (some (.agg #[.int .i64 0,.int .i64 0,.slice none 0 0,.slice none 0 0,.slice none 0 0]),5,88):=by kernel_rfl
abbrev CPut (w:World) (B o:Nat) (d:qA5):World:=((((w.setCell ⟨B,o,none⟩ (.int .i64 d.e)).setCell ⟨B,o+1,none⟩ (.int .i64 d.f)).setCell ⟨B,o+2,none⟩ (.slice d.ra d.rn d.rc)).setCell ⟨B,o+3,none⟩ (.slice d.fa d.fn d.fc)).setCell ⟨B,o+4,none⟩ (.slice d.ca d.cn d.cc)
theorem CPut_other (w:World) (B o:Nat) (d:qA5) (q:Addr) (h:∀ j,j < 5→q≠⟨B,o+j,none⟩):(CPut w B o d).cell? q=w.cell? q:=by
 have h0:q≠⟨B,o,none⟩:=h 0 (by omega)
 unfold CPut
 rw [World.cell?_setCell_other (h:=fun e=>h 4 (by omega) e.symm),World.cell?_setCell_other (h:=fun e=>h 3 (by omega) e.symm),World.cell?_setCell_other (h:=fun e=>h 2 (by omega) e.symm),World.cell?_setCell_other (h:=fun e=>h 1 (by omega) e.symm),World.cell?_setCell_other (h:=fun e=>h0 e.symm)]
theorem CPut_at (w:World) (B o:Nat) (d:qA5) (h:∀ j,j < 5→∃ v,w.cell? ⟨B,o+j,none⟩=some v):qI9 (CPut w B o d) B o d:=by
 obtain ⟨v0,h0⟩:=h 0 (by omega)
 obtain ⟨v1,h1⟩:=h 1 (by omega)
 obtain ⟨v2,h2⟩:=h 2 (by omega)
 obtain ⟨v3,h3⟩:=h 3 (by omega)
 obtain ⟨v4,h4⟩:=h 4 (by omega)
 rw [Nat.add_zero] at h0
 unfold qI9 CPut
 refine ⟨?_,?_,?_,?_,?_⟩ <;> simp [go_sem,h0,h1,h2,h3,h4]
structure qH6 (w0 w:World) (n:Nat) (cs ds:List qA5) (k:Nat):Prop where
 ln:ds.length=k
 sm:∀ (j:Nat) c d,cs[j]? = some c→ds[j]? = some d→qI0 c d
 ca:∀ (j:Nat) d,ds[j]? = some d→qI9 w w0.heap.size (j * 5) d
 nw:∀ (j:Nat) d,ds[j]? = some d→CfN w (w0.heap.size+1) d
 rm:(∀ j,j < n * 5→∃ v,w.cell? ⟨w0.heap.size,j,none⟩=some v)∧∀ j,w.frozen? ⟨w0.heap.size,j,none⟩=false
 lt:w0.heap.size < w.heap.size
 bl:Below w0.heap.size w0 w
theorem qH6.below {w0 w w':World} {n:Nat} {cs ds:List qA5} {k:Nat} (h:qH6 w0 w n cs ds k) (hb:Below w.heap.size w w'):qH6 w0 w' n cs ds k :=
 ⟨h.ln,h.sm,fun j d e=>(h.ca j d e).below hb,fun j d e=>⟨(h.nw j d e).rd.below hb,(h.nw j d e).nw.below hb⟩,⟨fun j hj=>by obtain ⟨v,e⟩:=h.rm.1 j hj;exact ⟨v,(hb.cell (p:=⟨w0.heap.size,j,none⟩) h.lt).trans e⟩,fun j=>(hb.frozen (p:=⟨w0.heap.size,j,none⟩) h.lt).trans (h.rm.2 j)⟩,Nat.lt_of_lt_of_le h.lt hb.size,h.bl.trans (hb.mono h.bl.size)⟩
theorem qH6.put {w0 w:World} {n:Nat} {cs ds:List qA5} {k:Nat} (h:qH6 w0 w n cs ds k) (hk:k < n) {c d:qA5} (hc:cs[k]? = some c) (hs:qI0 c d) (hd:CfN w (w0.heap.size+1) d):qH6 w0 (CPut w w0.heap.size (k * 5) d) n cs (ds++[d]) (k+1):=by
 have hl:=h.ln
 have at1:∀ (j:Nat) x,(ds++[d])[j]? = some x→(j < k∧ds[j]? = some x)∨(j=k∧x=d):=fun j x e=>by
  by_cases hj:j < k
  ·rw [List.getElem?_append_left (by omega)] at e
   exact .inl ⟨hj,e⟩
  ·have hjk:j=k:=by
    have:=(List.getElem?_eq_some_iff.1 e).1
    simp at this
    omega
   subst hjk
   rw [← hl,List.getElem?_append_right (Nat.le_refl _),Nat.sub_self] at e
   simp at e
   exact .inr ⟨rfl,e.symm⟩
 have hg:w0.heap.size < w0.heap.size+1:=Nat.lt_succ_self _
 have keepN:∀ x,CfN w (w0.heap.size+1) x→CfN (CPut w w0.heap.size (k * 5) d) (w0.heap.size+1) x:=fun x hx=>((((hx.set hg).set hg).set hg).set hg).set hg
 refine ⟨by simp [hl],fun j c' x e1 e2=>?_,fun j x e=>?_,fun j x e=>?_,⟨fun j hj=>?_,fun j=>?_⟩,by simpa using h.lt,((((h.bl.setCell (Nat.le_refl _) _).setCell (Nat.le_refl _) _).setCell (Nat.le_refl _) _).setCell (Nat.le_refl _) _).setCell (Nat.le_refl _) _⟩
 ·rcases at1 j x e2 with ⟨_,q⟩ | ⟨rfl,rfl⟩
  ·exact h.sm j c' x e1 q
  ·rw [hc] at e1
   cases e1
   exact hs
 ·rcases at1 j x e with ⟨hj,q⟩ | ⟨rfl,rfl⟩
  ·obtain ⟨a0,a1,a2,a3,a4⟩:=h.ca j x q
   have o:∀ i,i < 5→(CPut w w0.heap.size (k * 5) d).cell? ⟨w0.heap.size,j * 5+i,none⟩=w.cell? ⟨w0.heap.size,j * 5+i,none⟩:=fun i hi=>CPut_other w _ _ d _ (fun i' hi' e=>by have:=congrArg Addr.off e;simp at this;omega)
   exact ⟨(o 0 (by omega)).trans a0,(o 1 (by omega)).trans a1,(o 2 (by omega)).trans a2,(o 3 (by omega)).trans a3,(o 4 (by omega)).trans a4⟩
  ·exact CPut_at w _ _ x (fun i hi=>h.rm.1 _ (by omega))
 ·rcases at1 j x e with ⟨_,q⟩ | ⟨rfl,rfl⟩
  ·exact keepN x (h.nw j x q)
  ·exact keepN x hd
 ·obtain ⟨v,e⟩:=h.rm.1 j hj
  have s1:∀ (W:World) (p:Addr) (u:Value) (q:Addr),(∃ v,W.cell? q=some v)→∃ v,(W.setCell p u).cell? q=some v:=fun W p u q ⟨v,e⟩=>by
   by_cases hp:q=p
   ·subst hp
    exact ⟨u,by simp [go_sem,e]⟩
   ·exact ⟨v,by rw [World.cell?_setCell_other (h:=fun e=>hp e.symm)];exact e⟩
  exact s1 _ _ _ _ (s1 _ _ _ _ (s1 _ _ _ _ (s1 _ _ _ _ (s1 _ _ _ _ ⟨v,e⟩))))
 ·unfold CPut
  simp only [World.frozen?_setCell]
  exact h.rm.2 j
theorem QB7 (a:Option Addr) (n cap:Nat) (cs:List qA5) (w:World) (hn:n≤1048576) (hle:∀ (k:Nat) c,cs[k]? = some c→qD7 1048576 c) (h:qA7 w a n cs) :
  Calls Tryz.prog 12 #[.slice a n cap] w fun e w'=>e = .returned (.slice (some ⟨w.heap.size,0,none⟩) n n)∧∃ ds,qH6 w w' n cs ds n:=by
 obtain ⟨i0,hi,hz0,hz1,hz2⟩:=info_parts Tryz.infoCf
 obtain ⟨wm,hmk,hownm,hgrm⟩:=run_make_full (P:=Tryz.prog) (w:=w) w.heap.size 35 71 i0 (.agg #[.int .i64 0,.int .i64 0,.slice none 0 0,.slice none 0 0,.slice none 0 0]) 5 Tryz.underlying35 hi hz0 hz1 .i64 .i64 n (by rw [hz2];omega) (by unfold maxLen;omega) (Nat.le_refl _)
 have H:Hid (qA7 w a n cs):=h
 have HLE:Hid (∀ (k:Nat) c,cs[k]? = some c→qD7 1048576 c):=hle
 clear h hle
 have HM:Hid (qH6 w wm n cs [] 0):=by
  refine ⟨rfl,fun j c d _ e=>by simp at e,fun j d e=>by simp at e,fun j d e=>by simp at e,⟨fun j hj=>?_,fun j=>hownm.frozenAt j⟩,(hownm.lt _ rfl).2,(Below.refl _ _).grown hgrm (Nat.le_refl _) (fun k e=>by cases e)⟩
  have hl:=hownm.1
  exact ⟨_,(hownm.cellAt j (by omega)).trans (List.getElem?_eq_getElem (by omega))⟩
 clear hownm hgrm
 have hn':(n:Int)≤1048576:=by omega
 go_enter Tryz.func12,Tryz.ntmps12
 go_wp2
 go_loopw [4] (fun i wr=>∃ (k:Nat) (ds:List qA5),k≤n∧i = .int .i64 (k:Int)∧Hid (qH6 w wr n cs ds k)) (fun i _=>n - (intOf i).toNat)
 case atStart=>exact ⟨0,[],Nat.zero_le _,rfl,HM⟩
 case round =>
  obtain ⟨k,ds,hk,rfl,HK⟩:=hrel
  by_cases hlt:k < n
  ·have hlt':(k:Int) < (n:Int):=by omega
   obtain ⟨b,off,c,rfl,hs,hr,hci⟩:=H.out.at hlt
   have HS:Hid (cs[k]? = some c):=hs
   have hb:b < wr.heap.size:=Nat.lt_of_lt_of_le hr.lt HK.out.bl.size
   have HCI:Hid (qF7 wr c):=hci.below HK.out.bl
   obtain ⟨c0,c1,c2,c3,c4⟩:=hr.below HK.out.bl
   have hx:=HLE.out k c hs
   clear hs hr hci
   go_wp2_with fail
   refine (toConfig_c c _ hx HCI.out).mono ?_
   rintro e w1 ⟨d,rfl,hsm,hdi,hdn,hb1⟩
   have K1:=HK.out.below hb1
   have K2:Hid (qH6 w (CPut w1 w.heap.size (k * 5) d) n cs (ds++[d]) (k+1)):=K1.put hlt HS.out hsm ⟨hdi,hdn.low (by have:=HK.out.lt;omega)⟩
   have hl1:=K1.lt
   obtain ⟨u0,e0⟩:=K1.rm.1 (k * 5) (by omega)
   obtain ⟨u1,e1⟩:=K1.rm.1 (k * 5+1) (by omega)
   obtain ⟨u2,e2⟩:=K1.rm.1 (k * 5+2) (by omega)
   obtain ⟨u3,e3⟩:=K1.rm.1 (k * 5+3) (by omega)
   obtain ⟨u4,e4⟩:=K1.rm.1 (k * 5+4) (by omega)
   have f0:=K1.rm.2 (k * 5)
   have f1:=K1.rm.2 (k * 5+1)
   have f2:=K1.rm.2 (k * 5+2)
   have f3:=K1.rm.2 (k * 5+3)
   have f4:=K1.rm.2 (k * 5+4)
   clear K1 hsm hdi hdn hb1 c0 c1 c2 c3 c4 HK
   go_wp2_with fail
   exact ⟨⟨k+1,ds++[d],by omega,by go_num,K2⟩,by simp [intOf];omega⟩
  ·have hkn:k=n:=by omega
   subst hkn
   go_wp2_with fail
   go_ret
   exact ⟨rfl,ds,HK.out⟩
theorem qH6.isIn {w0 w:World} {n:Nat} {cs ds:List qA5} (h:qH6 w0 w n cs ds n):qA7 w (some ⟨w0.heap.size,0,none⟩) n ds :=
 ⟨h.ln,fun _=>⟨_,0,rfl,fun k c e=>by rw [Nat.zero_add];exact h.ca k c e⟩,fun k c e=>(h.nw k c e).rd⟩
theorem QP4 (a b:Option Addr) (n ca cb:Nat) (cs ds:List qA5) (w:World) (hn:n≤1048576) (hle:∀ (k:Nat) c,cs[k]? = some c→qD7 1048576 c) (hs:∀ (j:Nat) c d,cs[j]? = some c→ds[j]? = some d→qI0 c d) (h:qA7 w a n cs) (h':qA7 w b n ds) :
  Calls Tryz.prog 15 #[.slice a n ca,.slice b n cb] w fun e w'=>e = .returned (.bool true)∧Below w.heap.size w w':=by
 have HA:Hid (qA7 w a n cs):=h
 have HB:Hid (qA7 w b n ds):=h'
 have HLE:Hid (∀ (k:Nat) c,cs[k]? = some c→qD7 1048576 c):=hle
 have HSM:Hid (∀ (j:Nat) c d,cs[j]? = some c→ds[j]? = some d→qI0 c d):=hs
 clear h h' hle hs
 have hn':(n:Int)≤1048576:=by omega
 go_enter Tryz.func15,Tryz.ntmps15
 go_wp2
 go_loopw [5] (fun i wr=>∃ k:Nat,k≤n∧i = .int .i64 (k:Int)∧Below w.heap.size w wr) (fun i _=>n - (intOf i).toNat)
 case atStart=>exact ⟨0,Nat.zero_le _,rfl,Below.refl _ _⟩
 case round =>
  obtain ⟨k,hk,rfl,hnx⟩:=hrel
  by_cases hlt:k < n
  ·obtain ⟨b1,o1,s,e1,hs1,hr1,hi1⟩:=HA.out.at hlt
   obtain ⟨b2,o2,s2,e2,hs2,hr2,hi2⟩:=HB.out.at hlt
   subst e1 e2
   have hb1:b1 < wr.heap.size:=Nat.lt_of_lt_of_le hr1.lt hnx.size
   have hb2:b2 < wr.heap.size:=Nat.lt_of_lt_of_le hr2.lt hnx.size
   obtain ⟨h0,h1,h2,h3,h4⟩:=hr1.below hnx
   obtain ⟨g0,g1,g2,g3,g4⟩:=hr2.below hnx
   have HEQ:Hid (∀ W,Below wr.heap.size wr W→Calls Tryz.prog 40 #[.agg #[.int .i64 s.e,.int .i64 s.f,.slice s.ra s.rn s.rc,.slice s.fa s.fn s.fc,.slice s.ca s.cn s.cc],.agg #[.int .i64 s2.e,.int .i64 s2.f,.slice s2.ra s2.rn s2.rc,.slice s2.fa s2.fn s2.fc,.slice s2.ca s2.cn s2.cc]] W fun e w'=>e = .returned (.bool true)∧Below W.heap.size W w'):=by
    have q1:=HLE.out k s hs1
    have q2:=HSM.out k s s2 hs1 hs2
    exact fun W hW=>QV6 s s2 W q1 q2 ((hi1.below hnx).below hW) ((hi2.below hnx).below hW)
   have hlt':(k:Int) < (n:Int):=by omega
   clear hr1 hr2 hi1 hi2 hs1 hs2
   go_wp2
   go_region_held3 (fun w'=>(∀ b o,b < wr.heap.size→w'.cell? ⟨b,o,none⟩=wr.cell? ⟨b,o,none⟩)∧Below wr.heap.size wr w') (first | exact hS | exact qB4 _)
    (first | (go_at_call 40;refine (HEQ.out _ (by first | exact hHeld.2 | exact (Below.refl _ _).drew)).mono ?_;rintro e w' ⟨rfl,hbz⟩;have hS:=qA0 (by assumption) hbz))
   go_wp2
   exact ⟨⟨k+1,by omega,by go_num,hnx.trans (hS.2.mono hnx.size)⟩,by simp [intOf];omega⟩
  ·have hkn:k=n:=by omega
   subst hkn
   go_wp2
   go_ret
   exact ⟨rfl,hnx⟩

theorem QZ5 (lo hi g n cap:Nat) (k0:Int) (w:World) (hn:n≤1048576) (h0:0≤k0) (h1:k0≤9000000000000000000) (hg:lo≤g∧g < hi) (h:qO0 w g (n * 8)) :
  Calls Tryz.prog 45 #[.slice (some ⟨g,0,none⟩) n cap,.int .i64 k0] w fun e w'=>e = .returned (.int .i64 (k0+8 * (n:Int)))∧Mrk w w'∧Chg lo hi w w':=by
 have HO:Hid (MI lo hi w w g (n * 8)):=⟨Mrk.refl w,Chg.refl w,h⟩
 clear h
 have hn':(n:Int)≤1048576:=by omega
 go_enter Tryz.func45,Tryz.ntmps45
 go_wp2
 go_loopw [1,5] (fun q i wr=>∃ (j:Nat),j≤n∧i = .int .i64 (j:Int)∧q = .int .i64 (k0+8 * (j:Int))∧MI lo hi w wr g (n * 8))
  (fun _ i _=>n - (intOf i).toNat)
 case atStart=>exact ⟨0,Nat.zero_le _,rfl,by simp,HO.out⟩
 case round =>
  obtain ⟨j,hj,rfl,rfl,hmi⟩:=hrel
  have HG:Hid (MI lo hi w wr g (n * 8)):=hmi
  have hroom:=hmi.rw
  clear hmi
  by_cases hlt:j < n
  ·have hlt':(j:Int) < (n:Int):=by omega
   obtain ⟨v0,c0⟩:=hroom.1 (j * 8) (by omega)
   have f0:=hroom.2 (j * 8)
   obtain ⟨v1,c1⟩:=hroom.1 (j * 8+1) (by omega)
   have f1:=hroom.2 (j * 8+1)
   obtain ⟨v2,c2⟩:=hroom.1 (j * 8+2) (by omega)
   have f2:=hroom.2 (j * 8+2)
   obtain ⟨v3,c3⟩:=hroom.1 (j * 8+3) (by omega)
   have f3:=hroom.2 (j * 8+3)
   obtain ⟨v4,c4⟩:=hroom.1 (j * 8+4) (by omega)
   have f4:=hroom.2 (j * 8+4)
   obtain ⟨v5,c5⟩:=hroom.1 (j * 8+5) (by omega)
   have f5:=hroom.2 (j * 8+5)
   obtain ⟨v6,c6⟩:=hroom.1 (j * 8+6) (by omega)
   have f6:=hroom.2 (j * 8+6)
   obtain ⟨v7,c7⟩:=hroom.1 (j * 8+7) (by omega)
   have f7:=hroom.2 (j * 8+7)
   clear hroom
   go_wp2
   refine ⟨⟨j+1,by omega,by go_num,?_,?_⟩,by simp [intOf];omega⟩
   ·congr 1;omega
   ·exact ((((((((HG.out.set hg (show j * 8 < n * 8 by omega) _).set hg (show j * 8+1 < n * 8 by omega) _).set hg (show j * 8+2 < n * 8 by omega) _).set hg (show j * 8+3 < n * 8 by omega) _).set hg (show j * 8+4 < n * 8 by omega) _).set hg (show j * 8+5 < n * 8 by omega) _).set hg (show j * 8+6 < n * 8 by omega) _).set hg (show j * 8+7 < n * 8 by omega) _)
  ·have hjn:j=n:=by omega
   subst hjn
   clear hroom
   go_wp2
   go_ret
   exact ⟨rfl,HG.out.mr,HG.out.ch⟩
theorem QZ6 (lo hi g n cap:Nat) (k0:Int) (w:World) (hn:n≤1048576) (h0:0≤k0) (h1:k0≤9000000000000000000) (hg:lo≤g∧g < hi) (h:qO0 w g (n * 5)) :
  Calls Tryz.prog 71 #[.slice (some ⟨g,0,none⟩) n cap,.int .i64 k0] w fun e w'=>e = .returned (.int .i64 (k0+5 * (n:Int)))∧Mrk w w'∧Chg lo hi w w':=by
 have HO:Hid (MI lo hi w w g (n * 5)):=⟨Mrk.refl w,Chg.refl w,h⟩
 clear h
 have hn':(n:Int)≤1048576:=by omega
 go_enter Tryz.func71,Tryz.ntmps71
 go_wp2
 go_loopw [1,5] (fun q i wr=>∃ (j:Nat),j≤n∧i = .int .i64 (j:Int)∧q = .int .i64 (k0+5 * (j:Int))∧MI lo hi w wr g (n * 5))
  (fun _ i _=>n - (intOf i).toNat)
 case atStart=>exact ⟨0,Nat.zero_le _,rfl,by simp,HO.out⟩
 case round =>
  obtain ⟨j,hj,rfl,rfl,hmi⟩:=hrel
  have HG:Hid (MI lo hi w wr g (n * 5)):=hmi
  have hroom:=hmi.rw
  clear hmi
  by_cases hlt:j < n
  ·have hlt':(j:Int) < (n:Int):=by omega
   obtain ⟨v0,c0⟩:=hroom.1 (j * 5) (by omega)
   have f0:=hroom.2 (j * 5)
   obtain ⟨v1,c1⟩:=hroom.1 (j * 5+1) (by omega)
   have f1:=hroom.2 (j * 5+1)
   obtain ⟨v2,c2⟩:=hroom.1 (j * 5+2) (by omega)
   have f2:=hroom.2 (j * 5+2)
   obtain ⟨v3,c3⟩:=hroom.1 (j * 5+3) (by omega)
   have f3:=hroom.2 (j * 5+3)
   obtain ⟨v4,c4⟩:=hroom.1 (j * 5+4) (by omega)
   have f4:=hroom.2 (j * 5+4)
   clear hroom
   go_wp2
   refine ⟨⟨j+1,by omega,by go_num,?_,?_⟩,by simp [intOf];omega⟩
   ·congr 1;omega
   ·exact (((((HG.out.set hg (show j * 5 < n * 5 by omega) _).set hg (show j * 5+1 < n * 5 by omega) _).set hg (show j * 5+2 < n * 5 by omega) _).set hg (show j * 5+3 < n * 5 by omega) _).set hg (show j * 5+4 < n * 5 by omega) _)
  ·have hjn:j=n:=by omega
   subst hjn
   clear hroom
   go_wp2
   go_ret
   exact ⟨rfl,HG.out.mr,HG.out.ch⟩
def QP9 (lo hi:Nat) (w:World) (x:qF1):Prop:=x.n≤1048576∧∃ g,x.a=some ⟨g,0,none⟩∧lo≤g∧g < hi∧qO0 w g (x.n * 5)
theorem QP9.mrk {lo hi:Nat} {w w':World} {x:qF1} (h:QP9 lo hi w x) (k:Mrk w w'):QP9 lo hi w' x:=by
 obtain ⟨h0,g,h1,h2,h3,h4⟩:=h
 exact ⟨h0,g,h1,h2,h3,h4.mrk k⟩
def qV0 (lo hi:Nat) (w:World) (g n:Nat) (fs:List qF1):Prop:=fs.length=n∧∀ (k:Nat) (x:qF1),fs[k]? = some x→w.cell? ⟨g,k,none⟩=some (.slice x.a x.n x.cap)∧QP9 lo hi w x
theorem qV0.mrk {lo hi:Nat} {w w':World} {g n:Nat} {fs:List qF1} (h:qV0 lo hi w g n fs) (k:Mrk w w'):qV0 lo hi w' g n fs :=
 ⟨h.1,fun j x e=>⟨k.sl _ _ _ _ (h.2 j x e).1,(h.2 j x e).2.mrk k⟩⟩
theorem QZ8 (lo hi g n cap:Nat) (k0:Int) (fs:List qF1) (w:World) (hn:n≤1048576) (h0:0≤k0) (h1:k0≤8000000000000000000) (h:qV0 lo hi w g n fs) :
  Calls Tryz.prog 46 #[.slice (some ⟨g,0,none⟩) n cap,.int .i64 k0] w fun e w'=>(∃ k:Int,e = .returned (.int .i64 k)∧k0≤k∧k≤k0+5242880 * (n:Int))∧Mrk w w'∧Chg lo hi w w':=by
 have HO:Hid (qV0 lo hi w g n fs):=h
 clear h
 have hn':(n:Int)≤1048576:=by omega
 go_enter Tryz.func46,Tryz.ntmps46
 go_wp2
 go_loopw [1,5] (fun q i wr=>∃ (j:Nat) (k:Int),j≤n∧i = .int .i64 (j:Int)∧q = .int .i64 k∧(k0≤k∧k≤k0+5242880 * (j:Int))∧Mrk w wr∧Chg lo hi w wr)
  (fun _ i _=>n - (intOf i).toNat)
 case atStart=>exact ⟨0,k0,Nat.zero_le _,rfl,rfl,⟨by omega,by omega⟩,Mrk.refl _,Chg.refl _⟩
 case round =>
  obtain ⟨j,k,hj,rfl,rfl,⟨hk0,hk1⟩,hmk,hch⟩:=hrel
  have HM:Hid (Mrk w wr∧Chg lo hi w wr):=⟨hmk,hch⟩
  have HT:=HO.out.mrk hmk
  clear hmk hch
  by_cases hlt:j < n
  ·have hlt':(j:Int) < (n:Int):=by omega
   obtain ⟨x,hx⟩:∃ x,fs[j]? = some x:=⟨_,List.getElem?_eq_getElem (by rw [HT.1];exact hlt)⟩
   obtain ⟨hc,hxn,gp,hxa,hlo,hhi,hrow⟩:=HT.2 j x hx
   have HR:Hid (qO0 wr gp (x.n * 5)):=hrow
   have hgl:=zL wr ⟨g,j,none⟩ hc
   rw [hxa] at hc
   clear hx hrow HT
   go_wp2_with fail
   refine (QZ6 lo hi gp x.n x.cap k wr hxn (by omega) (by omega) ⟨hlo,hhi⟩ HR.out).mono ?_
   rintro d w1 ⟨rfl,hm1,hc1⟩
   have HM1:Hid (Mrk w w1∧Chg lo hi w w1):=⟨HM.out.1.trans hm1,HM.out.2.trans hc1⟩
   have hxn':(x.n:Int)≤1048576:=by omega
   clear hm1 hc1 HM hc
   go_wp2_with fail
   exact ⟨⟨j+1,k+5 * (x.n:Int),by omega,by go_num,rfl,⟨by omega,by simp;omega⟩,HM1.out.1,HM1.out.2⟩,by simp [intOf];omega⟩
  ·have hjn:j=n:=by omega
   subst hjn
   go_wp2_with fail
   go_ret
   exact ⟨⟨k,rfl,hk0,hk1⟩,HM.out.1,HM.out.2⟩

structure qO4 (cs ds:List qA5):Prop where
 ln:ds.length=cs.length
 sm:∀ (j:Nat) c d,cs[j]? = some c→ds[j]? = some d→qI0 c d
theorem code_same {c d:qA5} (h:qI0 c d):qU8 d=qU8 c:=by
 unfold qU8
 rw [h.e,h.f,h.zs,h.ps,h.cs]
theorem qO4.get {cs ds:List qA5} (h:qO4 cs ds) {j:Nat} {d:qA5} (e:ds[j]? = some d):∃ c,cs[j]? = some c∧qI0 c d:=by
 have hj:=(List.getElem?_eq_some_iff.1 e).1
 rw [h.ln] at hj
 exact ⟨_,List.getElem?_eq_getElem hj,h.sm j _ d (List.getElem?_eq_getElem hj) e⟩
theorem qO4.f0 {cs ds:List qA5} (h:qO4 cs ds):(ds[0]?.getD default).f=(cs[0]?.getD default).f:=by
 cases e:ds[0]? with
 | none =>
  have : ds.length≤0:=by simpa using e
  have e2:cs[0]? = none:=List.getElem?_eq_none (by rw [← h.ln];exact this)
  rw [e2]
 | some d =>
  obtain ⟨c,hc,hs⟩:=h.get e
  rw [hc]
  exact hs.f
theorem QY2 {cs ds:List qA5} (h:qO4 cs ds):∀ k,qK3 ds k=qK3 cs k
 | 0=>rfl
 | k+1=>by
  have ih:=QY2 h k
  show (if qK3 ds k=0 then (match ds[k]? with
   | none=>0
   | some c=>if qU8 c=0 then (if c.f=(ds[0]?.getD default).f then 0 else 1) else qU8 c) else qK3 ds k)=_
  rw [ih]
  by_cases q:qK3 cs k=0
  ·rw [if_pos q]
   cases e:ds[k]? with
   | none =>
    have : ds.length≤k:=by simpa using e
    have e2:cs[k]? = none:=List.getElem?_eq_none (by rw [← h.ln];exact this)
    rw [qK3,if_pos q,e2]
   | some d =>
    obtain ⟨c,hc,hs⟩:=h.get e
    rw [QA4 hc q]
    simp only
    rw [code_same hs,hs.f,h.f0]
  ·rw [if_neg q,qK3,if_neg q]
theorem qO4.cfs {cs ds:List qA5} (h:qO4 cs ds):qB8 ds=qB8 cs:=by
 unfold qB8
 rw [h.ln,QY2 h]
theorem qH6.same {w0 w:World} {n:Nat} {cs ds:List qA5} (h:qH6 w0 w n cs ds n) (hc:cs.length=n):qO4 cs ds:=⟨h.ln.trans hc.symm,h.sm⟩
theorem qH6.le {w0 w wA:World} {a:Option Addr} {n:Nat} {cs ds:List qA5} (h:qH6 w0 w n cs ds n) (hn:n≤1048576) (hi:qA7 wA a n cs) (hl:∀ (k:Nat) c,cs[k]? = some c→qD7 1048576 c):qF5 1048576 ds:=by
 have hS:=h.same hi.len
 refine ⟨fun k d e=>?_,fun k d e=>?_⟩
 ·obtain ⟨c,hc,hs⟩:=hS.get e
  exact hs.le (hi.each k c hc) (h.nw k d e).rd (hl k c hc)
 ·obtain ⟨c,hc,hs⟩:=hS.get e
  have q:=(h.nw k d e).nw.rules.1
  have hl2:=(hs.le (hi.each k c hc) (h.nw k d e).rd (hl k c hc)).rules
  refine ⟨(h.nw k d e).nw.cap,?_⟩
  rw [q]
  unfold maxLen
  omega
theorem QQ4 {cs ds es:List qA5} (h:qO4 cs ds) (g:qO4 cs es):∀ (j:Nat) c d,ds[j]? = some c→es[j]? = some d→qI0 c d:=fun j c d e1 e2=>by
 obtain ⟨x,hx,hs⟩:=h.get e1
 exact hs.trans (g.sm j x d hx e2)

section
open Go.RowKit Go.ChangeShapes Go.WideShapes
theorem Tryz.cells139:Tryz.prog.cellsOf 139=2:=by kernel_rfl
theorem Tryz.cells2:Tryz.prog.cellsOf 2=1:=by kernel_rfl
theorem list2 {α:Type} {l:List α} (h:l.length=2):∃ a b,l=[a,b]:=by
 match l,h with
 | [a,b],_=>exact ⟨a,b,rfl⟩
theorem list5 {α:Type} {l:List α} (h:l.length=5):∃ a b c d e,l=[a,b,c,d,e]:=by
 match l,h with
 | [a,b,c,d,e],_=>exact ⟨a,b,c,d,e,rfl⟩
theorem list8 {α:Type} {l:List α} (h:l.length=8):∃ a b c d e f g i,l=[a,b,c,d,e,f,g,i]:=by
 match l,h with
 | [a,b,c,d,e,f,g,i],_=>exact ⟨a,b,c,d,e,f,g,i,rfl⟩
theorem QD3 {H:Type} {enc:TypeId × Value→H} {w:World} {base:Nat} {spare:Nat→Bool} {held:Bool} {fuel:Nat} {cs:List Value} {x:DataW H × List MemPlace} (h:DataW.trod enc Tryz.prog w base spare held fuel 139 cs=some x) :
  ∃ o n,cs=[.int .i64 o,.int .i64 n]:=by
 obtain ⟨y0,y1,n,_,hl,h0,h1⟩:=trod_struct2 Tryz.underlying139 h
 rw [Tryz.cells139] at hl
 obtain ⟨c0,c1,rfl⟩:=list2 hl
 simp [Tryz.cells2] at h0 h1
 obtain ⟨a,e0,_,_⟩:=DataW.trod_int Tryz.underlying2 h0
 obtain ⟨b,e1,_,_⟩:=DataW.trod_int Tryz.underlying2 h1
 simp at e0 e1
 exact ⟨a,b,by rw [e0,e1]⟩
theorem Tryz.cells141:Tryz.prog.cellsOf 141=8:=by kernel_rfl
theorem rule_list {H:Type} {enc:TypeId × Value→H} {w:World} {base:Nat} {spare:Nat→Bool} {held:Bool} {fuel:Nat} {cs:List Value} {x:DataW H × List MemPlace} (h:DataW.trod enc Tryz.prog w base spare held fuel 141 cs=some x) :
  ∃ r:qA1,cs=[.int .i64 r.k,.int .i64 r.ho,.int .i64 r.hn,.int .i64 r.w,.int .i64 r.oo,.int .i64 r.on,.int .i64 r.to,.int .i64 r.tn]:=by
 obtain ⟨xs,n,_,_,hl,hlen,hf⟩:=DataW.trod_struct Tryz.underlying141 h
 rw [Tryz.cells141] at hl
 obtain ⟨c0,c1,c2,c3,c4,c5,c6,c7,rfl⟩:=list8 hl
 obtain ⟨y0,y1,y2,y3,y4,rfl⟩:=list5 hlen
 have g0:=hf 0 _ rfl
 have g1:=hf 1 _ rfl
 have g2:=hf 2 _ rfl
 have g3:=hf 3 _ rfl
 have g4:=hf 4 _ rfl
 simp [Tryz.cells2,Tryz.cells139] at g0 g1 g2 g3 g4
 obtain ⟨k,e0,_,_⟩:=DataW.trod_int Tryz.underlying2 g0
 obtain ⟨wh,e3,_,_⟩:=DataW.trod_int Tryz.underlying2 g2
 obtain ⟨ho,hn,e1⟩:=QD3 g1
 obtain ⟨oo,on,e4⟩:=QD3 g3
 obtain ⟨tw,tn,e6⟩:=QD3 g4
 simp at e0 e1 e3 e4 e6
 obtain ⟨rfl,rfl⟩:=e1
 obtain ⟨rfl,rfl⟩:=e4
 obtain ⟨rfl,rfl⟩:=e6
 subst e0 e3
 exact ⟨⟨k,ho,hn,wh,oo,on,tw,tn⟩,rfl⟩
theorem cells8 {w:World} {base:Nat} {a:Addr} {r:qA1} (h:w.cells? base a 8=some [.int .i64 r.k,.int .i64 r.ho,.int .i64 r.hn,.int .i64 r.w,.int .i64 r.oo,.int .i64 r.on,.int .i64 r.to,.int .i64 r.tn]):a.spot=none∧qC6 w a.block a.off r:=by
 have e:List.range 8=[0,1,2,3,4,5,6,7]:=rfl
 unfold World.cells? at h
 split at h
 ·rw [e] at h
  simp only [List.mapM_cons,List.mapM_nil,Option.bind_eq_bind,Option.bind_eq_some_iff,Option.pure_def,Option.some.injEq,List.cons.injEq] at h
  obtain ⟨x0,h0,y0,⟨x1,h1,y1,⟨x2,h2,y2,⟨x3,h3,y3,⟨x4,h4,y4,⟨x5,h5,y5,⟨x6,h6,y6,⟨x7,h7,y7,rfl,e7⟩,e6⟩,e5⟩,e4⟩,e3⟩,e2⟩,e1⟩,e0,ee⟩:=h
  subst e0
  rw [← e1] at ee
  simp only [List.cons.injEq] at ee
  obtain ⟨rfl,ee⟩:=ee
  rw [← e2] at ee
  simp only [List.cons.injEq] at ee
  obtain ⟨rfl,ee⟩:=ee
  rw [← e3] at ee
  simp only [List.cons.injEq] at ee
  obtain ⟨rfl,ee⟩:=ee
  rw [← e4] at ee
  simp only [List.cons.injEq] at ee
  obtain ⟨rfl,ee⟩:=ee
  rw [← e5] at ee
  simp only [List.cons.injEq] at ee
  obtain ⟨rfl,ee⟩:=ee
  rw [← e6] at ee
  simp only [List.cons.injEq] at ee
  obtain ⟨rfl,ee⟩:=ee
  rw [← e7] at ee
  simp only [List.cons.injEq] at ee
  obtain ⟨rfl,_⟩:=ee
  obtain ⟨b,off,spot⟩:=a
  have hspot:spot=none:=by simpa [Addr.add] using World.cell?_spot h0
  subst hspot
  simp only [Addr.add] at h0 h1 h2 h3 h4 h5 h6 h7
  exact ⟨rfl,by simpa using h0,by simpa using h1,by simpa using h2,by simpa using h3,by simpa using h4,by simpa using h5,by simpa using h6,by simpa using h7⟩
 ·cases h
instance:Inhabited qA1:=⟨⟨0,0,0,0,0,0,0,0⟩⟩
theorem rules_shape {H:Type} {enc:TypeId × Value→H} {w:World} {base:Nat} {spare:Nat→Bool} {held:Bool} {fuel:Nat} {a0:Option Addr} {len cap:Nat} {x:DataW H × List MemPlace} (h:DataW.trod enc Tryz.prog w base spare held fuel 59 [.slice a0 len cap]=some x) :
  ∃ zs:List qA1,RulesArg w a0 len zs:=by
 rcases Go.Deep.open_slice Tryz.underlying59 h with ⟨hcs,_⟩ | ⟨a,l,c,m,n,D,Pl,hcs,hb,hl,hm,hmm,_,hel⟩
 ·simp at hcs
  obtain ⟨rfl,rfl,rfl⟩:=hcs
  exact ⟨[],⟨rfl,fun h=>by omega⟩,Nat.zero_le _⟩
 ·simp at hcs
  obtain ⟨rfl,rfl,rfl⟩:=hcs
  have hle:len≤m:=by rw [hmm];split <;> omega
  rw [Tryz.cells141] at hel
  have hk:∀ i,i < len→∃ r:qA1,w.cells? base (a.add (i * 8)) 8=some [.int .i64 r.k,.int .i64 r.ho,.int .i64 r.hn,.int .i64 r.w,.int .i64 r.oo,.int .i64 r.on,.int .i64 r.to,.int .i64 r.tn]:=fun i hi=>by
   obtain ⟨cs',hc,ht⟩:=hel i (by omega)
   obtain ⟨r,rfl⟩:=rule_list ht
   exact ⟨r,hc⟩
  obtain ⟨f,hf⟩:=Go.Deep.choose_lt hk
  refine ⟨(List.range len).map f,⟨by simp,fun hp=>?_⟩,Nat.le_trans hl hm⟩
  obtain ⟨hsp,_⟩:=cells8 (hf 0 hp)
  obtain ⟨b,off,spot⟩:=a
  simp [Addr.add] at hsp
  subst hsp
  refine ⟨b,off,rfl,fun k r e=>?_⟩
  have hkl:k < len:=by
   by_cases q:k < len
   ·exact q
   ·rw [List.getElem?_eq_none (by simp;omega)] at e;cases e
  rw [List.getElem?_map,List.getElem?_range hkl] at e
  simp at e
  subst e
  obtain ⟨_,hr⟩:=cells8 (hf k hkl)
  have : ((⟨b,off,none⟩:Addr).add (k * 8))=⟨b,off+k * 8,none⟩:=Go.WideShapes.add_plain ..
  rw [this] at hr
  exact hr
end

end Go.Proofs.YtlhgjackapdmbaaGreatDoor
