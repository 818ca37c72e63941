/- Contracts. -/
import Derived.Test.YtlhgjackapdmbaaGreatDoorPw22
import Derived.Test.YtlhgjackapdmbaaGreatDoorPw10
import Derived.Test.YtlhgjackapdmbaaGreatDoorPw20
import Derived.Lib.BitFns
namespace Go.Proofs.YtlhgjackapdmbaaGreatDoor
set_option maxRecDepth 100000
set_option maxHeartbeats 8000000
open Go.RowKit
set_option linter.unusedVariables false
set_option linter.unusedSimpArgs false

structure qG1 where
 a:Option Addr
 n:Nat
 cap:Nat
 ps:List qC5
deriving Inhabited
def QE9 (w:World) (g off:Nat) (x:qG1):Prop:=w.cell? ⟨g,off,none⟩=some (.slice x.a x.n x.cap)∧qB9 w x.a x.n x.ps
theorem QE9.below {w w':World} {g off:Nat} {x:qG1} (h:QE9 w g off x) (hb:Below w.heap.size w w'):QE9 w' g off x :=
 ⟨(hb.cell (p:=⟨g,off,none⟩) (zL w ⟨g,off,none⟩ h.1)).trans h.1,h.2.below hb⟩
theorem QE9.lt {w:World} {g off:Nat} {x:qG1} (h:QE9 w g off x):g < w.heap.size:=zL w ⟨g,off,none⟩ h.1
def qR2 (w:World) (g off:Nat) (fs:List qG1):Prop:=∀ (k:Nat) (x:qG1),fs[k]? = some x→QE9 w g (off+k) x
theorem qR2.below {w w':World} {g off:Nat} {fs:List qG1} (h:qR2 w g off fs) (hb:Below w.heap.size w w'):qR2 w' g off fs:=fun k x e=>(h k x e).below hb
def qF1 (w:World) (a:Option Addr) (n:Nat) (fs:List qG1):Prop:=fs.length=n∧(0 < n→∃ b off,a=some ⟨b,off,none⟩∧qR2 w b off fs)
theorem qF1.below {w w':World} {a:Option Addr} {n:Nat} {fs:List qG1} (h:qF1 w a n fs) (hb:Below w.heap.size w w'):qF1 w' a n fs:=by
 refine ⟨h.1,fun hl=>?_⟩
 obtain ⟨b,off,e,hr⟩:=h.2 hl
 exact ⟨b,off,e,hr.below hb⟩
theorem qF1.at {w:World} {a:Option Addr} {n:Nat} {fs:List qG1} (h:qF1 w a n fs) {k:Nat} (hk:k < n) :
  ∃ b off x,a=some ⟨b,off,none⟩∧fs[k]? = some x∧QE9 w b (off+k) x:=by
 obtain ⟨b,off,e,hr⟩:=h.2 (by omega)
 have hl:=h.1
 exact ⟨b,off,fs[k]'(by omega),e,List.getElem?_eq_getElem (by omega),hr k _ (List.getElem?_eq_getElem (by omega))⟩
theorem qF1.of {w:World} {g n:Nat} {fs:List qG1} (hl:fs.length=n) (h:qR2 w g 0 fs):qF1 w (some ⟨g,0,none⟩) n fs :=
 ⟨hl,fun _=>⟨g,0,rfl,h⟩⟩
def qA2 (fs:List qG1):List (List qC5):=fs.map qG1.ps
def qK9 (m:Nat) (fs:List qG1):Prop:=∀ (k:Nat) (x:qG1),fs[k]? = some x→x.n≤m
def qN4 (w:World) (L:Nat) (x:qG1):Prop:=x.cap=x.n∧∃ g,x.a=some ⟨g,0,none⟩∧L≤g∧g < w.heap.size∧qY6 w g x.n
theorem qN4.below {w w':World} {L:Nat} {x:qG1} (h:qN4 w L x) (hb:Below w.heap.size w w'):qN4 w' L x:=by
 obtain ⟨h0,g,h1,h2,h3,h4⟩:=h
 exact ⟨h0,g,h1,h2,by have:=hb.size;omega,h4.below h3 hb⟩
def qJ4 (w:World) (L:Nat) (fs:List qG1):Prop:=∀ (k:Nat) (x:qG1),fs[k]? = some x→qN4 w L x
theorem qJ4.below {w w':World} {L:Nat} {fs:List qG1} (h:qJ4 w L fs) (hb:Below w.heap.size w w'):qJ4 w' L fs:=fun k x e=>(h k x e).below hb
theorem Tryz.info118:(Tryz.prog.info? 118).map (fun i=>(i.zero,i.size,i.bytes))=some (some (.agg #[.slice none 0 0]),1,24):=by kernel_rfl
theorem qB9.set {w:World} {a:Option Addr} {n g o:Nat} {v:Value} {zs:List qC5} (h:qB9 w a n zs) (hne:∀ b off,a=some ⟨b,off,none⟩→b≠g):qB9 (w.setCell ⟨g,o,none⟩ v) a n zs:=by
 refine ⟨h.1,fun hp=>?_⟩
 obtain ⟨b,off,e,hr⟩:=h.2 hp
 refine ⟨b,off,e,fun k x hx=>?_⟩
 have key:∀ (q:Nat) (u:Value),w.cell? ⟨b,q,none⟩=some u→(w.setCell ⟨g,o,none⟩ v).cell? ⟨b,q,none⟩=some u:=fun q u hu=>by
  rw [World.cell?_setCell_other (h:=fun e2=>hne b off e (by have:=congrArg Addr.block e2;simp at this;omega))];exact hu
 obtain ⟨h0,h1,h2,h3,h4⟩:=hr k x hx
 exact ⟨key _ _ h0,key _ _ h1,key _ _ h2,key _ _ h3,key _ _ h4⟩
theorem qY6.setAny {w:World} {g n:Nat} (h:qY6 w g n) (b o:Nat) (v:Value):qY6 (w.setCell ⟨b,o,none⟩ v) g n:=by
 refine ⟨fun j hj=>?_,fun j=>by simp only [World.frozen?_setCell];exact h.2 j⟩
 obtain ⟨u,e⟩:=h.1 j hj
 by_cases q:(⟨b,o,none⟩:Addr)=⟨g,j,none⟩
 ·cases q
  exact ⟨v,by simp [go_sem,e]⟩
 ·exact ⟨u,by rw [World.cell?_setCell_other (h:=q)];exact e⟩
theorem toForm_c (x:qG1) (w:World) (hn:x.n≤1048576) (h:qB9 w x.a x.n x.ps) :
  Calls Tryz.prog 89 #[.agg #[.slice x.a x.n x.cap]] w fun e w'=>∃ y:qG1,e = .returned (.agg #[.slice y.a y.n y.cap])∧y.ps=x.ps∧y.n=x.n∧qB9 w' y.a y.n y.ps∧qN4 w' w.heap.size y∧Below w.heap.size w w':=by
 have HP:Hid (qB9 w x.a x.n x.ps):=h
 clear h
 obtain ⟨W,hW⟩:∃ W,W=((w.alloc (.cells #[.slice x.a x.n x.cap] 136)).alloc (.cells #[.slice none 0 0] 118)).alloc (.cells #[.slice none 0 0] 118):=⟨_,rfl⟩
 have hs:W.heap.size=w.heap.size+3:=by rw [hW];simp
 have B0:Below w.heap.size w W:=by rw [hW];exact ((zN).alloc (by simp) _).alloc (by simp;omega) _
 have c1:W.cell? ⟨w.heap.size+1,0,none⟩=some (.slice none 0 0):=by rw [hW];go_cell
 have c2:W.cell? ⟨w.heap.size+2,0,none⟩=some (.slice none 0 0):=by rw [hW];go_cell
 have f1:W.frozen? ⟨w.heap.size+1,0,none⟩=false:=by rw [hW];simp [go_sem]
 have f2:W.frozen? ⟨w.heap.size+2,0,none⟩=false:=by rw [hW];simp [go_sem]
 go_enter Tryz.func89,Tryz.ntmps89
 go_wp2_with fail
 rw [← hW]
 clear hW
 refine (QU7 x.a x.n x.cap x.ps W hn (HP.out.below B0)).mono ?_
 rintro e w1 ⟨rfl,hat,hlt,hb,hroom⟩
 have HQ:Hid (qN3 w1 W.heap.size 0 x.ps∧qY6 w1 W.heap.size x.n∧Below w.heap.size w w1):=⟨hat,hroom,B0.trans (hb.mono (by omega))⟩
 have d1:w1.cell? ⟨w.heap.size+1,0,none⟩=some (.slice none 0 0):=(hb.cell (p:=⟨w.heap.size+1,0,none⟩) (by show w.heap.size+1 < W.heap.size;omega)).trans c1
 have d2:w1.cell? ⟨w.heap.size+2,0,none⟩=some (.slice none 0 0):=(hb.cell (p:=⟨w.heap.size+2,0,none⟩) (by show w.heap.size+2 < W.heap.size;omega)).trans c2
 have g1:w1.frozen? ⟨w.heap.size+1,0,none⟩=false:=(hb.frozen (p:=⟨w.heap.size+1,0,none⟩) (by show w.heap.size+1 < W.heap.size;omega)).trans f1
 have g2:w1.frozen? ⟨w.heap.size+2,0,none⟩=false:=(hb.frozen (p:=⟨w.heap.size+2,0,none⟩) (by show w.heap.size+2 < W.heap.size;omega)).trans f2
 have hw:w.heap.size+2 < w1.heap.size:=by omega
 have HS:Hid (W.heap.size=w.heap.size+3):=hs
 clear hat hroom hb c1 c2 f1 f2 B0 hs
 go_wp2
 refine bodyPost_ret (v:=.agg #[.slice (some ⟨W.heap.size,0,none⟩) x.n x.n]) (by simp [results,Tryz.results89,go_sem,d1,d2,hw]) rfl ⟨⟨some ⟨W.heap.size,0,none⟩,x.n,x.n,x.ps⟩,rfl,rfl,rfl,?_,⟨rfl,_,rfl,by have:=HS.out;omega,by simp only [World.size_setCell];exact hlt,(HQ.out.2.1.setAny _ _ _).setAny _ _ _⟩,?_⟩
 ·exact ((qB9.of HP.out.1 HQ.out.1).set (fun b off e=>by cases e;have:=HS.out;omega)).set (fun b off e=>by cases e;have:=HS.out;omega)
 ·exact (HQ.out.2.2.setCell (by simp;omega) _).setCell (by simp) _
theorem forms_put {w:World} {B k n:Nat} {ys:List qG1} {y:qG1} (hroom:qH0 w B n) (hk:k < n) (hl:ys.length=k) (hat:qR2 w B 0 ys) (hnew:qJ4 w (B+1) ys) (hp:qB9 w y.a y.n y.ps) (hy:qN4 w (B+1) y) :
  qH0 (w.setCell ⟨B,k,none⟩ (.slice y.a y.n y.cap)) B n∧qR2 (w.setCell ⟨B,k,none⟩ (.slice y.a y.n y.cap)) B 0 (ys++[y])∧qJ4 (w.setCell ⟨B,k,none⟩ (.slice y.a y.n y.cap)) (B+1) (ys++[y]):=by
 have hne:∀ z:qG1,qN4 w (B+1) z→∀ b off,z.a=some ⟨b,off,none⟩→b≠B:=fun z hz b off e=>by
  obtain ⟨_,g,e',hg,_⟩:=hz
  rw [e] at e'
  cases e'
  omega
 have hns:∀ z:qG1,qN4 w (B+1) z→qN4 (w.setCell ⟨B,k,none⟩ (.slice y.a y.n y.cap)) (B+1) z:=fun z hz=>by
  obtain ⟨h0,g,e',hg,hlt,hr⟩:=hz
  exact ⟨h0,g,e',hg,by simp only [World.size_setCell];exact hlt,hr.setAny _ _ _⟩
 obtain ⟨u,hu⟩:=hroom.1 k hk
 refine ⟨hroom.set _ _,fun j x e=>?_,fun j x e=>?_⟩
 ·by_cases hj:j < k
  ·rw [List.getElem?_append_left (by omega)] at e
   obtain ⟨h1,h2⟩:=hat j x e
   refine ⟨?_,h2.set (hne x (hnew j x e))⟩
   rw [World.cell?_setCell_other (h:=fun q=>by have:=congrArg Addr.off q;simp at this;omega)]
   exact h1
  ·have hjk:j=k:=by
    by_cases q:j < (ys++[y]).length
    ·simp at q;omega
    ·rw [List.getElem?_eq_none (by omega)] at e;cases e
   subst hjk
   rw [← hl,List.getElem?_append_right (Nat.le_refl _),Nat.sub_self] at e
   simp at e
   subst e
   refine ⟨?_,hp.set (hne y hy)⟩
   rw [Nat.zero_add]
   simp [go_sem,hu]
 ·rcases List.mem_append.1 (List.mem_of_getElem? e) with h | h
  ·obtain ⟨i,hi⟩:=List.mem_iff_getElem?.1 h
   exact hns x (hnew i x hi)
  ·rw [List.mem_singleton.1 h]
   exact hns y hy
structure FormsTo (w0 w:World) (n:Nat) (fs ys:List qG1):Prop where
 ln:ys.length=n
 ps:qA2 ys=qA2 fs
 at':qR2 w w0.heap.size 0 ys
 nw:qJ4 w (w0.heap.size+1) ys
 rm:qH0 w w0.heap.size n
 lt:w0.heap.size < w.heap.size
 bl:Below w0.heap.size w0 w
theorem toForms_c (a:Option Addr) (n cap:Nat) (fs:List qG1) (w:World) (hn:n≤1048576) (hle:qK9 1048576 fs) (h:qF1 w a n fs) :
  Calls Tryz.prog 61 #[.slice a n cap] w fun e w'=>e = .returned (.slice (some ⟨w.heap.size,0,none⟩) n n)∧∃ ys,FormsTo w w' n fs ys:=by
 obtain ⟨i0,hi,hz0,hz1,hz2⟩:=info_parts Tryz.info118
 obtain ⟨wm,hmk,hownm,hgrm⟩:=run_make_full (P:=Tryz.prog) (w:=w) w.heap.size 69 118 i0 (.agg #[.slice none 0 0]) 1 Tryz.underlying69 hi hz0 hz1 .i64 .i64 n (by rw [hz2];omega) (by unfold maxLen;omega) (Nat.le_refl _)
 have H:Hid (qF1 w a n fs):=h
 have HLE:Hid (qK9 1048576 fs):=hle
 have hz:Hid (fs.length=n):=h.1
 clear h hle
 have HM:Hid (qH0 wm w.heap.size n∧w.heap.size < wm.heap.size):=by
  refine ⟨⟨fun j hj=>?_,fun j=>hownm.frozenAt j⟩,(hownm.lt _ rfl).2⟩
  have hl:=hownm.1
  exact ⟨_,(hownm.cellAt j (by omega)).trans (List.getElem?_eq_getElem (by omega))⟩
 clear hownm
 have HG:Hid (w.grownBy wm none):=hgrm
 clear hgrm
 have hn':(n:Int)≤1048576:=by omega
 go_enter Tryz.func61,Tryz.ntmps61
 go_wp2
 go_loopw [4] (fun i wr=>∃ (k:Nat) (ys:List qG1),k≤n∧i = .int .i64 (k:Int)∧ys.length=k∧qA2 ys=qA2 (fs.take k)∧qH0 wr w.heap.size n∧qR2 wr w.heap.size 0 ys∧qJ4 wr (w.heap.size+1) ys∧w.heap.size < wr.heap.size∧Below w.heap.size w wr)
  (fun i _=>n - (intOf i).toNat)
 case atStart=>exact ⟨0,[],Nat.zero_le _,rfl,rfl,rfl,HM.out.1,fun k r e=>by simp at e,fun k r e=>by simp at e,HM.out.2,(Below.refl _ _).grown HG.out (Nat.le_refl _) (fun k e=>by cases e)⟩
 case round =>
  obtain ⟨k,ys,hk,rfl,hyl,hyp,hroom,hat,hnew,hlt0,hnx⟩:=hrel
  have HY:Hid (ys.length=k∧qA2 ys=qA2 (fs.take k)):=⟨hyl,hyp⟩
  clear hyl hyp
  by_cases hlt:k < n
  ·obtain ⟨b,off,x,rfl,hs,hr⟩:=H.out.at hlt
   have HS:Hid (fs[k]? = some x):=hs
   have hb:b < w.heap.size:=hr.lt
   have hx:x.n≤1048576:=HLE.out k x hs
   clear hs
   have hr2:=hr.below hnx
   have h0:=hr2.1
   have HX:Hid (qB9 wr x.a x.n x.ps):=hr2.2
   have HD:Hid (qH0 wr w.heap.size n∧qR2 wr w.heap.size 0 ys∧qJ4 wr (w.heap.size+1) ys∧Below w.heap.size w wr):=⟨hroom,hat,hnew,hnx⟩
   clear hroom hat hnew hr hr2 hnx
   have hlt':(k:Int) < (n:Int):=by omega
   go_wp2_with fail
   refine (toForm_c x _ hx HX.out).mono ?_
   rintro e w1 ⟨y,rfl,hyps,hyn,hyP,hyN,hb1⟩
   have hz1:=hb1.size
   have HB:Hid (Below wr.heap.size wr w1):=hb1
   have hyN':qN4 w1 (w.heap.size+1) y:=by
    obtain ⟨q0,g,q1,q2,q3⟩:=hyN
    exact ⟨q0,g,q1,by omega,q3⟩
   obtain ⟨P1,P2,P3⟩:=forms_put (HD.out.1.below hlt0 hb1) hlt HY.out.1 (HD.out.2.1.below hb1) (HD.out.2.2.1.below hb1) hyP hyN'
   have RM:Hid (qH0 (w1.setCell ⟨w.heap.size,k,none⟩ (.slice y.a y.n y.cap)) w.heap.size n∧qR2 (w1.setCell ⟨w.heap.size,k,none⟩ (.slice y.a y.n y.cap)) w.heap.size 0 (ys++[y])∧qJ4 (w1.setCell ⟨w.heap.size,k,none⟩ (.slice y.a y.n y.cap)) (w.heap.size+1) (ys++[y])∧Below w.heap.size w (w1.setCell ⟨w.heap.size,k,none⟩ (.slice y.a y.n y.cap))):=⟨P1,P2,P3,(HD.out.2.2.2.trans (hb1.mono HD.out.2.2.2.size)).setCell (Nat.le_refl _) _⟩
   have HP:Hid (qA2 (ys++[y])=qA2 (fs.take (k+1))):=by
    show qA2 (ys++[y])=qA2 (fs.take (k+1))
    have h1:=HY.out.2
    unfold qA2 at h1 ⊢
    rw [List.map_append,h1,List.take_add_one,HS.out]
    simp [hyps]
   obtain ⟨u,hu⟩:=(HD.out.1.below hlt0 hb1).1 k hlt
   have hf:=(HD.out.1.below hlt0 hb1).2 k
   clear P1 P2 P3 hyps hyn hyP hyN hyN' hb1 h0
   go_wp2
   exact ⟨⟨k+1,ys++[y],by omega,by go_num,by simp [HY.out.1],HP.out,RM.out.1,RM.out.2.1,RM.out.2.2.1,by simp only [World.size_setCell];omega,RM.out.2.2.2⟩,by simp [intOf];omega⟩
  ·have hkn:k=n:=by omega
   subst hkn
   have HQ:Hid (FormsTo w wr k fs ys):=by
    refine ⟨HY.out.1,?_,hat,hnew,hroom,hlt0,hnx⟩
    have:=HY.out.2
    rw [List.take_of_length_le (by rw [hz.out];exact Nat.le_refl _)] at this
    exact this
   go_wp2
   go_ret
   exact ⟨rfl,ys,HQ.out⟩
theorem eqForm_same (x y:qG1) (w:World) (hn:x.n≤1048576) (hp:y.ps=x.ps) (ha:qB9 w x.a x.n x.ps) (hb:qB9 w y.a y.n y.ps) :
  Calls Tryz.prog 94 #[.agg #[.slice x.a x.n x.cap],.agg #[.slice y.a y.n y.cap]] w fun e w'=>e = .returned (.bool true)∧Below w.heap.size w w':=by
 have hyn:y.n=x.n:=by have h1:=ha.1;have h2:=hb.1;rw [hp] at h2;omega
 rw [hyn] at hb
 rw [hp] at hb
 rw [hyn]
 clear hyn hp
 have HA:Hid (qB9 w x.a x.n x.ps):=ha
 have HB:Hid (qB9 w y.a x.n x.ps):=hb
 clear ha hb
 obtain ⟨W,hW⟩:∃ W,W=(w.alloc (.cells #[.slice x.a x.n x.cap] 118)).alloc (.cells #[.slice y.a x.n y.cap] 118):=⟨_,rfl⟩
 have B0:Below w.heap.size w W:=by rw [hW];exact (zN).alloc (by simp) _
 go_enter Tryz.func94,Tryz.ntmps94
 go_wp2_with fail
 rw [← hW]
 clear hW
 refine (QY7 x.a y.a x.n x.cap y.cap x.ps W hn (HA.out.below B0) (HB.out.below B0)).mono ?_
 rintro e w1 ⟨rfl,hb1⟩
 have hbb:Below w.heap.size w w1:=B0.trans (hb1.mono B0.size)
 clear B0 hb1
 go_wp2
 go_ret
 exact ⟨rfl,hbb⟩
theorem parts_at {fs ys:List qG1} (hp:qA2 ys=qA2 fs) {k:Nat} {x y:qG1} (hx:fs[k]? = some x) (hy:ys[k]? = some y):y.ps=x.ps:=by
 have h1:(qA2 ys)[k]? = some y.ps:=by unfold qA2;rw [List.getElem?_map,hy];rfl
 have h2:(qA2 fs)[k]? = some x.ps:=by unfold qA2;rw [List.getElem?_map,hx];rfl
 rw [hp,h2] at h1
 exact (Option.some.inj h1).symm
theorem QZ0 (a b:Option Addr) (n c d:Nat) (fs ys:List qG1) (w:World) (hn:n≤1048576) (hle:qK9 1048576 fs) (hp:qA2 ys=qA2 fs) (ha:qF1 w a n fs) (hb:qF1 w b n ys) :
  Calls Tryz.prog 69 #[.slice a n c,.slice b n d] w fun e w'=>e = .returned (.bool true)∧Below w.heap.size w w':=by
 have HA:Hid (qF1 w a n fs):=ha
 have HB:Hid (qF1 w b n ys):=hb
 have HLE:Hid (qK9 1048576 fs):=hle
 have HP:Hid (qA2 ys=qA2 fs):=hp
 clear ha hb hle hp
 have hn':(n:Int)≤1048576:=by omega
 go_enter Tryz.func69,Tryz.ntmps69
 go_wp2
 go_loopw [5] (fun i wr=>∃ k:Nat,k≤n∧i = .int .i64 (k:Int)∧Below w.heap.size w wr) (fun i _=>n - (intOf i).toNat)
 case atStart=>exact ⟨0,Nat.zero_le _,rfl,Below.refl _ _⟩
 case round =>
  obtain ⟨k,hk,rfl,hnx⟩:=hrel
  by_cases hlt:k < n
  ·obtain ⟨b1,o1,x,e1,hs,hr⟩:=HA.out.at hlt
   obtain ⟨b2,o2,y,e2,hs2,hr2⟩:=HB.out.at hlt
   have hxn:=HLE.out k x hs
   have hxy:=parts_at HP.out hs hs2
   subst e1 e2
   clear hs hs2
   have h0:=(hr.below hnx).1
   have g0:=(hr2.below hnx).1
   have HX:Hid (qB9 wr x.a x.n x.ps∧qB9 wr y.a y.n y.ps∧y.ps=x.ps):=⟨(hr.below hnx).2,(hr2.below hnx).2,hxy⟩
   clear hr hr2 hxy
   have hlt':(k:Int) < (n:Int):=by omega
   have hb1:b1 < wr.heap.size:=zL wr ⟨b1,o1+k,none⟩ h0
   have hb2:b2 < wr.heap.size:=zL wr ⟨b2,o2+k,none⟩ g0
   have HC:Hid (∀ w':World,((∀ b o,b < wr.heap.size→w'.cell? ⟨b,o,none⟩=wr.cell? ⟨b,o,none⟩)∧Below wr.heap.size wr w')→Calls Tryz.prog 94 #[.agg #[.slice x.a x.n x.cap],.agg #[.slice y.a y.n y.cap]] w' fun e w''=>e = .returned (.bool true)∧Below w'.heap.size w' w''):=fun w' q=>eqForm_same x y w' hxn HX.out.2.2 (HX.out.1.below q.2) (HX.out.2.1.below q.2)
   go_wp2
   go_region_held3 (fun w'=>(∀ b o,b < wr.heap.size→w'.cell? ⟨b,o,none⟩=wr.cell? ⟨b,o,none⟩)∧Below wr.heap.size wr w') (first | exact hS | exact qB5 _)
    (first | (go_at_call 94;refine (HC.out _ (by assumption)).mono ?_;rintro e w' ⟨rfl,hb1⟩;have hS:=qA6 (by assumption) hb1))
   go_wp2
   exact ⟨⟨k+1,by omega,by go_num,hnx.trans (hS.2.mono hnx.size)⟩,by simp [intOf];omega⟩
  ·have hkn:k=n:=by omega
   subst hkn
   go_wp2
   go_ret
   exact ⟨rfl,hnx⟩

structure qA4 where
 e:Int
 f:Int
 ra:Option Addr
 rn:Nat
 rc:Nat
 zs:List qA0
 fa:Option Addr
 fn:Nat
 fc:Nat
 fs:List qG1
 ca:Option Addr
 cn:Nat
 cc:Nat
 cs:List Int
deriving Inhabited
structure qE6 (w:World) (c:qA4):Prop where
 rules:qB4 w c.ra c.rn c.zs
 forms:qF1 w c.fa c.fn c.fs
 classes:qF8 w c.ca c.cn c.cs
theorem qE6.below {w w':World} {c:qA4} (h:qE6 w c) (hb:Below w.heap.size w w'):qE6 w' c:=⟨h.rules.below hb,h.forms.below hb,h.classes.below hb⟩
structure qD3 (m:Nat) (c:qA4):Prop where
 rules:c.rn≤m
 forms:c.fn≤m
 parts:qK9 m c.fs
 classes:c.cn≤m
structure qG8 (c d:qA4):Prop where
 e:d.e=c.e
 f:d.f=c.f
 rn:d.rn=c.rn
 zs:d.zs=c.zs
 fn:d.fn=c.fn
 ps:qA2 d.fs=qA2 c.fs
 cn:d.cn=c.cn
 cs:d.cs=c.cs
theorem qJ4.le {w:World} {L m n:Nat} {a:Option Addr} {ys fs:List qG1} (hy:qF1 w a n ys) (hf:∀ (k:Nat) (x:qG1),fs[k]? = some x→x.ps.length=x.n) (hp:qA2 ys=qA2 fs) (h:qK9 m fs):qK9 m ys:=by
 intro k y e
 have hk:k < n:=by
  by_cases q:k < n
  ·exact q
  ·rw [List.getElem?_eq_none (by rw [hy.1];omega)] at e;cases e
 obtain ⟨b,off,y',_,e',hat⟩:=hy.at hk
 rw [e] at e'
 cases e'
 have h1:(qA2 ys)[k]? = some y.ps:=by unfold qA2;rw [List.getElem?_map,e];rfl
 rw [hp] at h1
 unfold qA2 at h1
 rw [List.getElem?_map] at h1
 cases q:fs[k]? with
 | none=>rw [q] at h1;cases h1
 | some x =>
  rw [q] at h1
  simp at h1
  have h2:=h k x q
  have h3:=hf k x q
  have h4:=hat.2.1
  rw [← h1] at h4
  omega
theorem szForm_c (x:qG1) (l:Int) (w:World) (hx:x.n≤maxLen) (h0:0≤l) (h1:l≤1048576) :
  Calls Tryz.prog 86 #[.agg #[.slice x.a x.n x.cap],.int .i64 l] w fun e w'=>(∃ r:Int,e = .returned (.int .i64 r)∧r≤l∧(0≤r→(x.n:Int)≤l))∧Below w.heap.size w w':=by
 unfold maxLen at hx
 have hx':(x.n:Int)≤9223372036854775807:=by omega
 by_cases hlt:(x.n:Int)≤l
 ·go_enter Tryz.func86,Tryz.ntmps86
  go_wp2
  go_ret
  exact ⟨⟨_,rfl,by omega,fun _=>hlt⟩,by go_grown⟩
 ·have hlt':l < (x.n:Int):=by omega
  go_enter Tryz.func86,Tryz.ntmps86
  go_wp2
  go_ret
  exact ⟨⟨_,rfl,by omega,fun q=>by omega⟩,by go_grown⟩
theorem szForms_c (a:Option Addr) (n cap:Nat) (fs:List qG1) (l:Int) (w:World) (hn:n≤maxLen) (hle:qK9 maxLen fs) (h0:0≤l) (h1:l≤1048576) (h:qF1 w a n fs) :
  Calls Tryz.prog 55 #[.slice a n cap,.int .i64 l] w fun e w'=>(∃ r:Int,e = .returned (.int .i64 r)∧r≤l∧(0≤r→(n:Int)≤l∧qK9 l.toNat fs))∧Below w.heap.size w w':=by
 have H:Hid (qF1 w a n fs):=h
 have HZ:Hid (fs.length=n):=h.1
 have HLE:Hid (qK9 maxLen fs):=hle
 have hn':(n:Int)≤9223372036854775807:=by unfold maxLen at hn;omega
 clear h hle hn
 by_cases hlt:(n:Int)≤l
 ·go_enter Tryz.func55,Tryz.ntmps55
  go_wp2
  go_loopw [1,5] (fun q i wr=>∃ (k:Nat) (r:Int),k≤n∧i = .int .i64 (k:Int)∧q = .int .i64 r∧0≤r∧r≤l∧(∀ j x,j < k→fs[j]? = some x→x.n≤l.toNat)∧Below w.heap.size w wr)
   (fun _ i _=>n - (intOf i).toNat)
  case atStart=>exact ⟨0,_,Nat.zero_le _,rfl,rfl,by omega,by omega,fun j x hj=>by omega,Below.refl _ _⟩
  case round =>
   obtain ⟨k,r,hk,rfl,rfl,hr0,hr1,hok,hnx⟩:=hrel
   have HOK:Hid (∀ j x,j < k→fs[j]? = some x→x.n≤l.toNat):=hok
   clear hok
   by_cases hkn:k < n
   ·obtain ⟨b,off,x,rfl,hs,hr⟩:=H.out.at hkn
    have HS:Hid (fs[k]? = some x):=hs
    have hx:x.n≤maxLen:=HLE.out k x hs
    have hb:b < w.heap.size:=hr.lt
    have hc:=(hr.below hnx).1
    clear hs hr
    have hkn':(k:Int) < (n:Int):=by omega
    go_wp2_with fail
    refine (szForm_c x r _ hx hr0 (by omega)).mono ?_
    rintro e w1 ⟨⟨r',rfl,hr'1,hr'2⟩,hb1⟩
    have hb01:Below w.heap.size w w1:=hnx.trans (hb1.mono hnx.size)
    by_cases hneg:r' < 0
    ·clear hc
     go_wp2
     go_ret
     exact ⟨⟨_,rfl,by omega,fun q=>by omega⟩,hb01⟩
    ·have HN:Hid (∀ j y,j < k+1→fs[j]? = some y→y.n≤l.toNat):=fun j y hj hy=>by
      by_cases e:j=k
      ·subst e
       rw [HS.out] at hy
       cases hy
       have:=hr'2 (by omega)
       omega
      ·exact HOK.out j y (by omega) hy
     have hge:0≤r':=by omega
     clear hc hr'2
     go_wp2
     exact ⟨⟨k+1,r',by omega,by go_num,rfl,hge,by omega,HN.out,hb01⟩,by simp [intOf];omega⟩
   ·have hkn':k=n:=by omega
    subst hkn'
    have HQ:Hid (qK9 l.toNat fs):=fun j x hj=>by
     have : j < k:=by
      by_cases q:j < k
      ·exact q
      ·rw [List.getElem?_eq_none (by rw [HZ.out];omega)] at hj;cases hj
     exact HOK.out j x this hj
    go_wp2
    go_ret
    exact ⟨⟨r,rfl,hr1,fun _=>⟨hlt,HQ.out⟩⟩,hnx⟩
 ·have hlt':l < (n:Int):=by omega
  go_enter Tryz.func55,Tryz.ntmps55
  go_wp2
  go_ret
  exact ⟨⟨_,rfl,by omega,fun q=>by omega⟩,by go_grown⟩
theorem szConfig_c (c:qA4) (l:Int) (w:World) (hle:qD3 maxLen c) (h0:0≤l) (h1:l≤1048576) (h:qE6 w c) :
  Calls Tryz.prog 32 #[.agg #[.int .i64 c.e,.int .i64 c.f,.slice c.ra c.rn c.rc,.slice c.fa c.fn c.fc,.slice c.ca c.cn c.cc],.int .i64 l] w fun e w'=>(∃ r:Int,e = .returned (.int .i64 r)∧r≤l∧(0≤r→qD3 l.toNat c))∧Below w.heap.size w w':=by
 have hr1:=hle.rules
 have hc1:=hle.classes
 unfold maxLen at hr1 hc1
 have hr':(c.rn:Int)≤9223372036854775807:=by omega
 have hc':(c.cn:Int)≤9223372036854775807:=by omega
 have HLE:Hid (qD3 maxLen c):=hle
 have H:Hid (qE6 w c):=h
 clear h hle hr1 hc1
 obtain ⟨W,hW⟩:∃ W,W=w.alloc (.cells #[.int .i64 c.e,.int .i64 c.f,.slice c.ra c.rn c.rc,.slice c.fa c.fn c.fc,.slice c.ca c.cn c.cc] 63):=⟨_,rfl⟩
 have hs:W.heap.size=w.heap.size+1:=by rw [hW];simp
 have B0:Below w.heap.size w W:=by rw [hW];exact zN
 have c4:W.cell? ⟨w.heap.size,4,none⟩=some (.slice c.ca c.cn c.cc):=by rw [hW];simp
 by_cases q1:(c.rn:Int)≤l
 ·go_enter Tryz.func32,Tryz.ntmps32
  go_wp2_with (first | (go_at_call 54;go_in) | fail)
  rw [← hW]
  clear hW
  refine (szForms_c c.fa c.fn c.fc c.fs _ W HLE.out.forms HLE.out.parts (by omega) (by omega) (H.out.forms.below B0)).mono ?_
  rintro e w1 ⟨⟨r,rfl,hr1,hr2⟩,hb1⟩
  have HR:Hid (0≤r→(c.fn:Int)≤l - c.rn∧qK9 (l - c.rn).toNat c.fs):=hr2
  have hb:Below w.heap.size w w1:=B0.trans (hb1.mono (by omega))
  have d4:=(hb1.cell (p:=⟨w.heap.size,4,none⟩) (by show w.heap.size < W.heap.size;omega)).trans c4
  have hw:w.heap.size < w1.heap.size:=by have:=hb1.size;omega
  clear hr2 hb1 c4 B0 hs
  by_cases q2:r < 0
  ·go_wp2
   go_ret
   exact ⟨⟨_,rfl,by omega,fun q=>by omega⟩,hb⟩
  ·have q2':0≤r:=by omega
   by_cases q3:(c.cn:Int)≤r
   ·go_wp2
    go_ret
    refine ⟨⟨_,rfl,by omega,fun _=>?_⟩,hb⟩
    obtain ⟨h3,h4⟩:=HR.out q2'
    exact ⟨by omega,by omega,fun k x e=>by have:=h4 k x e;omega,by omega⟩
   ·have q3':r < (c.cn:Int):=by omega
    go_wp2
    go_ret
    exact ⟨⟨_,rfl,by omega,fun q=>by omega⟩,hb⟩
 ·have q1':l < (c.rn:Int):=by omega
  go_enter Tryz.func32,Tryz.ntmps32
  go_wp2
  go_ret
  exact ⟨⟨_,rfl,by omega,fun q=>by omega⟩,by go_grown⟩
def qP0 (w:World) (g:Nat) (c:qA4):Prop:=w.cell? ⟨g,0,none⟩=some (.int .i64 c.e)∧w.cell? ⟨g,1,none⟩=some (.int .i64 c.f)∧w.cell? ⟨g,2,none⟩=some (.slice c.ra c.rn c.rc)∧w.cell? ⟨g,3,none⟩=some (.slice c.fa c.fn c.fc)∧w.cell? ⟨g,4,none⟩=some (.slice c.ca c.cn c.cc)
theorem qP0.lt {w:World} {g:Nat} {c:qA4} (h:qP0 w g c):g < w.heap.size:=zL w ⟨g,0,none⟩ h.1
theorem qP0.below {w w':World} {g:Nat} {c:qA4} (h:qP0 w g c) (hb:Below w.heap.size w w'):qP0 w' g c:=by
 have key:∀ (o:Nat) (v:Value),w.cell? ⟨g,o,none⟩=some v→w'.cell? ⟨g,o,none⟩=some v:=fun o v e=>(hb.cell (p:=⟨g,o,none⟩) h.lt).trans e
 exact ⟨key _ _ h.1,key _ _ h.2.1,key _ _ h.2.2.1,key _ _ h.2.2.2.1,key _ _ h.2.2.2.2⟩
theorem qP0.new (w:World) (c:qA4) (t:TypeId):qP0 (w.alloc (.cells #[.int .i64 c.e,.int .i64 c.f,.slice c.ra c.rn c.rc,.slice c.fa c.fn c.fc,.slice c.ca c.cn c.cc] t)) w.heap.size c:=⟨by simp,by simp,by simp,by simp,by simp⟩
structure qL0 (w:World) (L:Nat) (d:qA4):Prop where
 rules:d.rc=d.rn∧∃ g,d.ra=some ⟨g,0,none⟩∧L≤g∧g < w.heap.size∧qM2 w g d.rn
 forms:d.fc=d.fn∧∃ g,d.fa=some ⟨g,0,none⟩∧L≤g∧g < w.heap.size∧qH0 w g d.fn
 parts:qJ4 w L d.fs
 classes:d.cc=d.cn∧∃ g,d.ca=some ⟨g,0,none⟩∧L≤g∧g < w.heap.size∧qH0 w g d.cn
structure QC9 (w:World) (g:Nat) (v0 v1 v2 v3 v4:Value):Prop where
 c0:w.cell? ⟨g,0,none⟩=some v0
 c1:w.cell? ⟨g,1,none⟩=some v1
 c2:w.cell? ⟨g,2,none⟩=some v2
 c3:w.cell? ⟨g,3,none⟩=some v3
 c4:w.cell? ⟨g,4,none⟩=some v4
 fz:∀ j,w.frozen? ⟨g,j,none⟩=false
theorem QC9.lt {w:World} {g:Nat} {v0 v1 v2 v3 v4:Value} (h:QC9 w g v0 v1 v2 v3 v4):g < w.heap.size:=zL w ⟨g,0,none⟩ h.c0
theorem QC9.below {w w':World} {g:Nat} {v0 v1 v2 v3 v4:Value} (h:QC9 w g v0 v1 v2 v3 v4) (hb:Below w.heap.size w w'):QC9 w' g v0 v1 v2 v3 v4:=by
 have key:∀ (o:Nat) (v:Value),w.cell? ⟨g,o,none⟩=some v→w'.cell? ⟨g,o,none⟩=some v:=fun o v e=>(hb.cell (p:=⟨g,o,none⟩) h.lt).trans e
 exact ⟨key _ _ h.c0,key _ _ h.c1,key _ _ h.c2,key _ _ h.c3,key _ _ h.c4,fun j=>(hb.frozen (p:=⟨g,j,none⟩) h.lt).trans (h.fz j)⟩
theorem QC9.other {w:World} {g b o:Nat} {v v0 v1 v2 v3 v4:Value} (h:QC9 w g v0 v1 v2 v3 v4) (hne:b≠g):QC9 (w.setCell ⟨b,o,none⟩ v) g v0 v1 v2 v3 v4:=by
 have key:∀ (q:Nat) (u:Value),w.cell? ⟨g,q,none⟩=some u→(w.setCell ⟨b,o,none⟩ v).cell? ⟨g,q,none⟩=some u:=fun q u e=>by
  rw [World.cell?_setCell_other (h:=fun e2=>hne (by have:=congrArg Addr.block e2;simpa using this))];exact e
 exact ⟨key _ _ h.c0,key _ _ h.c1,key _ _ h.c2,key _ _ h.c3,key _ _ h.c4,fun j=>by simp only [World.frozen?_setCell];exact h.fz j⟩
theorem QC9.new (w:World) (v0 v1 v2 v3 v4:Value) (t:TypeId):QC9 (w.alloc (.cells #[v0,v1,v2,v3,v4] t)) w.heap.size v0 v1 v2 v3 v4:=⟨by simp,by simp,by simp,by simp,by simp,fun j=>by simp [go_sem]⟩
theorem QC9.set0 {w:World} {g:Nat} {v v0 v1 v2 v3 v4:Value} (h:QC9 w g v0 v1 v2 v3 v4):QC9 (w.setCell ⟨g,0,none⟩ v) g v v1 v2 v3 v4:=⟨by simp [go_sem,h.c0],by simp [go_sem,h.c1],by simp [go_sem,h.c2],by simp [go_sem,h.c3],by simp [go_sem,h.c4],fun j=>by simp only [World.frozen?_setCell];exact h.fz j⟩
theorem QC9.set1 {w:World} {g:Nat} {v v0 v1 v2 v3 v4:Value} (h:QC9 w g v0 v1 v2 v3 v4):QC9 (w.setCell ⟨g,1,none⟩ v) g v0 v v2 v3 v4:=⟨by simp [go_sem,h.c0],by simp [go_sem,h.c1],by simp [go_sem,h.c2],by simp [go_sem,h.c3],by simp [go_sem,h.c4],fun j=>by simp only [World.frozen?_setCell];exact h.fz j⟩
theorem QC9.set2 {w:World} {g:Nat} {v v0 v1 v2 v3 v4:Value} (h:QC9 w g v0 v1 v2 v3 v4):QC9 (w.setCell ⟨g,2,none⟩ v) g v0 v1 v v3 v4:=⟨by simp [go_sem,h.c0],by simp [go_sem,h.c1],by simp [go_sem,h.c2],by simp [go_sem,h.c3],by simp [go_sem,h.c4],fun j=>by simp only [World.frozen?_setCell];exact h.fz j⟩
theorem QC9.set3 {w:World} {g:Nat} {v v0 v1 v2 v3 v4:Value} (h:QC9 w g v0 v1 v2 v3 v4):QC9 (w.setCell ⟨g,3,none⟩ v) g v0 v1 v2 v v4:=⟨by simp [go_sem,h.c0],by simp [go_sem,h.c1],by simp [go_sem,h.c2],by simp [go_sem,h.c3],by simp [go_sem,h.c4],fun j=>by simp only [World.frozen?_setCell];exact h.fz j⟩
theorem QC9.set4 {w:World} {g:Nat} {v v0 v1 v2 v3 v4:Value} (h:QC9 w g v0 v1 v2 v3 v4):QC9 (w.setCell ⟨g,4,none⟩ v) g v0 v1 v2 v3 v:=⟨by simp [go_sem,h.c0],by simp [go_sem,h.c1],by simp [go_sem,h.c2],by simp [go_sem,h.c3],by simp [go_sem,h.c4],fun j=>by simp only [World.frozen?_setCell];exact h.fz j⟩
structure CfW (w:World) (c:qA4) (v0 v1 v2 v3 v4:Value) (V:World):Prop where
 bl:Below w.heap.size w V
 ar:qP0 V w.heap.size c
 re:QC9 V (w.heap.size+1) (.int .i64 0) (.int .i64 0) (.slice none 0 0) (.slice none 0 0) (.slice none 0 0)
 ou:QC9 V (w.heap.size+2) v0 v1 v2 v3 v4
theorem CfW.below {w:World} {c:qA4} {v0 v1 v2 v3 v4:Value} {V V':World} (h:CfW w c v0 v1 v2 v3 v4 V) (hb:Below V.heap.size V V'):CfW w c v0 v1 v2 v3 v4 V' :=
 ⟨h.bl.trans (hb.mono h.bl.size),h.ar.below hb,h.re.below hb,h.ou.below hb⟩
theorem qP0.other {w:World} {g b o:Nat} {v:Value} {c:qA4} (h:qP0 w g c) (hne:b≠g):qP0 (w.setCell ⟨b,o,none⟩ v) g c:=by
 have key:∀ (q:Nat) (u:Value),w.cell? ⟨g,q,none⟩=some u→(w.setCell ⟨b,o,none⟩ v).cell? ⟨g,q,none⟩=some u:=fun q u e=>by
  rw [World.cell?_setCell_other (h:=fun e2=>hne (by have:=congrArg Addr.block e2;simpa using this))];exact e
 exact ⟨key _ _ h.1,key _ _ h.2.1,key _ _ h.2.2.1,key _ _ h.2.2.2.1,key _ _ h.2.2.2.2⟩
theorem CfW.set2 {w:World} {c:qA4} {v v0 v1 v2 v3 v4:Value} {V:World} (h:CfW w c v0 v1 v2 v3 v4 V):CfW w c v0 v1 v v3 v4 (V.setCell ⟨w.heap.size+2,2,none⟩ v):=⟨h.bl.setCell (by simp) _,h.ar.other (by omega),h.re.other (by omega),h.ou.set2⟩
theorem CfW.set3 {w:World} {c:qA4} {v v0 v1 v2 v3 v4:Value} {V:World} (h:CfW w c v0 v1 v2 v3 v4 V):CfW w c v0 v1 v2 v v4 (V.setCell ⟨w.heap.size+2,3,none⟩ v):=⟨h.bl.setCell (by simp) _,h.ar.other (by omega),h.re.other (by omega),h.ou.set3⟩
theorem CfW.set4 {w:World} {c:qA4} {v v0 v1 v2 v3 v4:Value} {V:World} (h:CfW w c v0 v1 v2 v3 v4 V):CfW w c v0 v1 v2 v3 v (V.setCell ⟨w.heap.size+2,4,none⟩ v):=⟨h.bl.setCell (by simp) _,h.ar.other (by omega),h.re.other (by omega),h.ou.set4⟩
theorem qB4.set {w:World} {a:Option Addr} {n g o:Nat} {v:Value} {zs:List qA0} (h:qB4 w a n zs) (hne:∀ b off,a=some ⟨b,off,none⟩→b≠g):qB4 (w.setCell ⟨g,o,none⟩ v) a n zs:=by
 refine ⟨h.1,fun hp=>?_⟩
 obtain ⟨b,off,e,hr⟩:=h.2 hp
 refine ⟨b,off,e,fun k x hx=>?_⟩
 have key:∀ (q:Nat) (u:Value),w.cell? ⟨b,q,none⟩=some u→(w.setCell ⟨g,o,none⟩ v).cell? ⟨b,q,none⟩=some u:=fun q u hu=>by
  rw [World.cell?_setCell_other (h:=fun e2=>hne b off e (by have:=congrArg Addr.block e2;simp at this;omega))];exact hu
 obtain ⟨h0,h1,h2,h3,h4,h5,h6,h7⟩:=hr k x hx
 exact ⟨key _ _ h0,key _ _ h1,key _ _ h2,key _ _ h3,key _ _ h4,key _ _ h5,key _ _ h6,key _ _ h7⟩
theorem qF8.set {w:World} {a:Option Addr} {n g o:Nat} {v:Value} {zs:List Int} (h:qF8 w a n zs) (hne:∀ b off,a=some ⟨b,off,none⟩→b≠g):qF8 (w.setCell ⟨g,o,none⟩ v) a n zs:=by
 refine ⟨h.1,fun hp=>?_⟩
 obtain ⟨b,off,e,hr⟩:=h.2 hp
 refine ⟨b,off,e,fun k x hx=>?_⟩
 rw [World.cell?_setCell_other (h:=fun e2=>hne b off e (by have:=congrArg Addr.block e2;simp at this;omega))];exact hr k x hx
theorem qF1.set {w:World} {a:Option Addr} {n g o:Nat} {v:Value} {fs:List qG1} (h:qF1 w a n fs) (hne:∀ b off,a=some ⟨b,off,none⟩→b≠g) (hnp:∀ (k:Nat) (x:qG1),fs[k]? = some x→∀ b off,x.a=some ⟨b,off,none⟩→b≠g):qF1 (w.setCell ⟨g,o,none⟩ v) a n fs:=by
 refine ⟨h.1,fun hp=>?_⟩
 obtain ⟨b,off,e,hr⟩:=h.2 hp
 refine ⟨b,off,e,fun k x hx=>⟨?_,(hr k x hx).2.set (hnp k x hx)⟩⟩
 rw [World.cell?_setCell_other (h:=fun e2=>hne b off e (by have:=congrArg Addr.block e2;simp at this;omega))];exact (hr k x hx).1
theorem qH0.setAny {w:World} {g n:Nat} (h:qH0 w g n) (b o:Nat) (v:Value):qH0 (w.setCell ⟨b,o,none⟩ v) g n:=by
 refine ⟨fun j hj=>?_,fun j=>by simp only [World.frozen?_setCell];exact h.2 j⟩
 obtain ⟨u,e⟩:=h.1 j hj
 by_cases q:(⟨b,o,none⟩:Addr)=⟨g,j,none⟩
 ·cases q
  exact ⟨v,by simp [go_sem,e]⟩
 ·exact ⟨u,by rw [World.cell?_setCell_other (h:=q)];exact e⟩
theorem qM2.setAny {w:World} {g n:Nat} (h:qM2 w g n) (b o:Nat) (v:Value):qM2 (w.setCell ⟨b,o,none⟩ v) g n:=by
 refine ⟨fun j hj=>?_,fun j=>by simp only [World.frozen?_setCell];exact h.2 j⟩
 obtain ⟨u,e⟩:=h.1 j hj
 by_cases q:(⟨b,o,none⟩:Addr)=⟨g,j,none⟩
 ·cases q
  exact ⟨v,by simp [go_sem,e]⟩
 ·exact ⟨u,by rw [World.cell?_setCell_other (h:=q)];exact e⟩
theorem qZ8 {w w':World} {g n:Nat} (h:qM2 w g n) (hg:g < w.heap.size) (hb:Below w.heap.size w w'):qM2 w' g n :=
 ⟨fun j hj=>by obtain ⟨v,e⟩:=h.1 j hj;exact ⟨v,(hb.cell (p:=⟨g,j,none⟩) hg).trans e⟩,fun j=>(hb.frozen (p:=⟨g,j,none⟩) hg).trans (h.2 j)⟩
theorem qN4.setAny {w:World} {L:Nat} {x:qG1} (h:qN4 w L x) (b o:Nat) (v:Value):qN4 (w.setCell ⟨b,o,none⟩ v) L x:=by
 obtain ⟨h0,g,h1,h2,h3,h4⟩:=h
 exact ⟨h0,g,h1,h2,by simp only [World.size_setCell];exact h3,h4.setAny _ _ _⟩
theorem qL0.setAny {w:World} {L:Nat} {d:qA4} (h:qL0 w L d) (b o:Nat) (v:Value):qL0 (w.setCell ⟨b,o,none⟩ v) L d:=by
 obtain ⟨⟨r0,rg,r1,r2,r3,r4⟩,⟨f0,fg,f1,f2,f3,f4⟩,hp,⟨k0,kg,k1,k2,k3,k4⟩⟩:=h
 exact ⟨⟨r0,rg,r1,r2,by simp only [World.size_setCell];exact r3,r4.setAny _ _ _⟩,⟨f0,fg,f1,f2,by simp only [World.size_setCell];exact f3,f4.setAny _ _ _⟩,fun k x e=>(hp k x e).setAny _ _ _,⟨k0,kg,k1,k2,by simp only [World.size_setCell];exact k3,k4.setAny _ _ _⟩⟩
theorem qE6.set {w:World} {L g o:Nat} {v:Value} {d:qA4} (h:qE6 w d) (hn:qL0 w L d) (hg:g < L):qE6 (w.setCell ⟨g,o,none⟩ v) d:=by
 obtain ⟨⟨r0,rg,r1,r2,r3,r4⟩,⟨f0,fg,f1,f2,f3,f4⟩,hp,⟨k0,kg,k1,k2,k3,k4⟩⟩:=hn
 refine ⟨h.rules.set (fun b off e=>by rw [r1] at e;cases e;omega),h.forms.set (fun b off e=>by rw [f1] at e;cases e;omega) (fun k x hx b off e=>?_),h.classes.set (fun b off e=>by rw [k1] at e;cases e;omega)⟩
 obtain ⟨_,q,q1,q2,_⟩:=hp k x hx
 rw [q1] at e
 cases e
 omega
theorem qL0.low {w:World} {L M:Nat} {d:qA4} (h:qL0 w L d) (hM:M≤L):qL0 w M d:=by
 obtain ⟨⟨r0,rg,r1,r2,r3,r4⟩,⟨f0,fg,f1,f2,f3,f4⟩,hp,⟨k0,kg,k1,k2,k3,k4⟩⟩:=h
 refine ⟨⟨r0,rg,r1,by omega,r3,r4⟩,⟨f0,fg,f1,by omega,f3,f4⟩,fun k x e=>?_,⟨k0,kg,k1,by omega,k3,k4⟩⟩
 obtain ⟨q0,g,q1,q2,q3⟩:=hp k x e
 exact ⟨q0,g,q1,by omega,q3⟩
theorem qL0.below {w w':World} {L:Nat} {d:qA4} (h:qL0 w L d) (hb:Below w.heap.size w w'):qL0 w' L d:=by
 have hz:=hb.size
 obtain ⟨⟨r0,rg,r1,r2,r3,r4⟩,⟨f0,fg,f1,f2,f3,f4⟩,hp,⟨k0,kg,k1,k2,k3,k4⟩⟩:=h
 exact ⟨⟨r0,rg,r1,r2,by omega,qZ8 r4 r3 hb⟩,⟨f0,fg,f1,f2,by omega,f4.below f3 hb⟩,fun k x e=>(hp k x e).below hb,⟨k0,kg,k1,k2,by omega,k4.below k3 hb⟩⟩
structure CfN (w:World) (L:Nat) (d:qA4):Prop where
 rd:qE6 w d
 nw:qL0 w L d
theorem CfN.set {w:World} {L g o:Nat} {v:Value} {d:qA4} (h:CfN w L d) (hg:g < L):CfN (w.setCell ⟨g,o,none⟩ v) L d:=⟨h.rd.set h.nw hg,h.nw.setAny _ _ _⟩
theorem toConfig_c (c:qA4) (w:World) (hle:qD3 1048576 c) (h:qE6 w c) :
  Calls Tryz.prog 36 #[.agg #[.int .i64 c.e,.int .i64 c.f,.slice c.ra c.rn c.rc,.slice c.fa c.fn c.fc,.slice c.ca c.cn c.cc]] w fun e w'=>∃ d:qA4,e = .returned (.agg #[.int .i64 d.e,.int .i64 d.f,.slice d.ra d.rn d.rc,.slice d.fa d.fn d.fc,.slice d.ca d.cn d.cc])∧qG8 c d∧qE6 w' d∧qL0 w' w.heap.size d∧Below w.heap.size w w':=by
 have HLE:Hid (qD3 1048576 c):=hle
 have H:Hid (qE6 w c):=h
 clear h hle
 obtain ⟨V,hV⟩:∃ V,V=((w.alloc (.cells #[.int .i64 c.e,.int .i64 c.f,.slice c.ra c.rn c.rc,.slice c.fa c.fn c.fc,.slice c.ca c.cn c.cc] 63)).alloc (.cells #[.int .i64 0,.int .i64 0,.slice none 0 0,.slice none 0 0,.slice none 0 0] 71)).alloc (.cells #[.int .i64 c.e,.int .i64 c.f,.slice none 0 0,.slice none 0 0,.slice none 0 0] 71):=⟨_,rfl⟩
 have X0:Hid (CfW w c (.int .i64 c.e) (.int .i64 c.f) (.slice none 0 0) (.slice none 0 0) (.slice none 0 0) V∧w.heap.size+2 < V.heap.size):=by
  rw [hV]
  have b1:Below w.heap.size w (w.alloc (.cells #[.int .i64 c.e,.int .i64 c.f,.slice c.ra c.rn c.rc,.slice c.fa c.fn c.fc,.slice c.ca c.cn c.cc] 63)):=zN
  have b2:=(Below.refl (w.alloc (.cells #[.int .i64 c.e,.int .i64 c.f,.slice c.ra c.rn c.rc,.slice c.fa c.fn c.fc,.slice c.ca c.cn c.cc] 63)).heap.size (w.alloc (.cells #[.int .i64 c.e,.int .i64 c.f,.slice c.ra c.rn c.rc,.slice c.fa c.fn c.fc,.slice c.ca c.cn c.cc] 63))).alloc (Nat.le_refl _) (.cells #[.int .i64 0,.int .i64 0,.slice none 0 0,.slice none 0 0,.slice none 0 0] 71)
  have k1:=(qP0.new w c 63).below b2
  have x1:=QC9.new (w.alloc (.cells #[.int .i64 c.e,.int .i64 c.f,.slice c.ra c.rn c.rc,.slice c.fa c.fn c.fc,.slice c.ca c.cn c.cc] 63)) (.int .i64 0) (.int .i64 0) (.slice none 0 0) (.slice none 0 0) (.slice none 0 0) 71
  have x2:=QC9.new ((w.alloc (.cells #[.int .i64 c.e,.int .i64 c.f,.slice c.ra c.rn c.rc,.slice c.fa c.fn c.fc,.slice c.ca c.cn c.cc] 63)).alloc (.cells #[.int .i64 0,.int .i64 0,.slice none 0 0,.slice none 0 0,.slice none 0 0] 71)) (.int .i64 c.e) (.int .i64 c.f) (.slice none 0 0) (.slice none 0 0) (.slice none 0 0) 71
  have b3:=(Below.refl ((w.alloc (.cells #[.int .i64 c.e,.int .i64 c.f,.slice c.ra c.rn c.rc,.slice c.fa c.fn c.fc,.slice c.ca c.cn c.cc] 63)).alloc (.cells #[.int .i64 0,.int .i64 0,.slice none 0 0,.slice none 0 0,.slice none 0 0] 71)).heap.size ((w.alloc (.cells #[.int .i64 c.e,.int .i64 c.f,.slice c.ra c.rn c.rc,.slice c.fa c.fn c.fc,.slice c.ca c.cn c.cc] 63)).alloc (.cells #[.int .i64 0,.int .i64 0,.slice none 0 0,.slice none 0 0,.slice none 0 0] 71))).alloc (Nat.le_refl _) (.cells #[.int .i64 c.e,.int .i64 c.f,.slice none 0 0,.slice none 0 0,.slice none 0 0] 71)
  have k2:=k1.below b3
  have y1:=x1.below b3
  have hz1:(w.alloc (.cells #[.int .i64 c.e,.int .i64 c.f,.slice c.ra c.rn c.rc,.slice c.fa c.fn c.fc,.slice c.ca c.cn c.cc] 63)).heap.size=w.heap.size+1:=by simp
  have hz2:((w.alloc (.cells #[.int .i64 c.e,.int .i64 c.f,.slice c.ra c.rn c.rc,.slice c.fa c.fn c.fc,.slice c.ca c.cn c.cc] 63)).alloc (.cells #[.int .i64 0,.int .i64 0,.slice none 0 0,.slice none 0 0,.slice none 0 0] 71)).heap.size=w.heap.size+2:=by simp
  rw [hz1] at y1
  rw [hz2] at x2
  exact ⟨⟨(b1.alloc (by simp) _).alloc (by simp;omega) _,k2,y1,x2⟩,by simp⟩
 go_enter Tryz.func36,Tryz.ntmps36
 go_wp2_with fail
 rw [← hV]
 clear hV
 refine (QU6 c.ra c.rn c.rc c.zs V HLE.out.rules (H.out.rules.below X0.out.1.bl)).mono ?_
 rintro e w1 ⟨rfl,hat1,hlt1,hb1,hroom1⟩
 have x1:=X0.out.1.below hb1
 have hz1:=hb1.size
 have A1:Hid (qB4 w1 (some ⟨V.heap.size,0,none⟩) c.rn c.zs∧qM2 w1 V.heap.size c.rn):=⟨qB4.of H.out.rules.1 hat1,hroom1⟩
 obtain ⟨k0,k1,k2,k3,k4⟩:=x1.ar
 obtain ⟨o0,o1,o2,o3,o4,of⟩:=x1.ou
 have X1:Hid (CfW w c (.int .i64 c.e) (.int .i64 c.f) (.slice (some ⟨V.heap.size,0,none⟩) c.rn c.rn) (.slice none 0 0) (.slice none 0 0) (w1.setCell ⟨w.heap.size+2,2,none⟩ (.slice (some ⟨V.heap.size,0,none⟩) c.rn c.rn))):=x1.set2
 have hw1:w.heap.size+2 < w1.heap.size:=by have:=X0.out.2;omega
 have hwV:Hid (w.heap.size+2 < V.heap.size):=X0.out.2
 clear hat1 hroom1 hb1 x1 X0
 go_wp2_with fail
 obtain ⟨V1,hV1⟩:∃ V1,V1=w1.setCell ⟨w.heap.size+2,2,none⟩ (.slice (some ⟨V.heap.size,0,none⟩) c.rn c.rn):=⟨_,rfl⟩
 have A1':Hid (qB4 V1 (some ⟨V.heap.size,0,none⟩) c.rn c.zs∧qM2 V1 V.heap.size c.rn∧V.heap.size < V1.heap.size):=by
  rw [hV1]
  exact ⟨A1.out.1.set (fun b off e=>by cases e;have:=hwV.out;omega),A1.out.2.setAny _ _ _,by simp only [World.size_setCell];exact hlt1⟩
 have HS1:Hid (V1.heap.size=w1.heap.size):=by rw [hV1];exact World.size_setCell ..
 rw [← hV1] at X1 ⊢
 clear hV1 A1 k0 k1 k2 k3 k4 o0 o1 o2 o3 o4 of
 refine (toForms_c c.fa c.fn c.fc c.fs V1 HLE.out.forms HLE.out.parts (H.out.forms.below X1.out.bl)).mono ?_
 rintro e w2 ⟨rfl,ys,hF⟩
 have hb2:=hF.bl
 have x2:=X1.out.below hb2
 have hz2:=hb2.size
 have A2:Hid (qB4 w2 (some ⟨V.heap.size,0,none⟩) c.rn c.zs∧qM2 w2 V.heap.size c.rn∧FormsTo V1 w2 c.fn c.fs ys):=⟨A1'.out.1.below hb2,qZ8 A1'.out.2.1 A1'.out.2.2 hb2,hF⟩
 obtain ⟨k0,k1,k2,k3,k4⟩:=x2.ar
 obtain ⟨o0,o1,o2,o3,o4,of⟩:=x2.ou
 have X2:Hid (CfW w c (.int .i64 c.e) (.int .i64 c.f) (.slice (some ⟨V.heap.size,0,none⟩) c.rn c.rn) (.slice (some ⟨V1.heap.size,0,none⟩) c.fn c.fn) (.slice none 0 0) (w2.setCell ⟨w.heap.size+2,3,none⟩ (.slice (some ⟨V1.heap.size,0,none⟩) c.fn c.fn))):=x2.set3
 have hw2:w.heap.size+2 < w2.heap.size:=by have:=HS1.out;omega
 clear hF hb2 x2 X1
 go_wp2_with fail
 obtain ⟨V2,hV2⟩:∃ V2,V2=w2.setCell ⟨w.heap.size+2,3,none⟩ (.slice (some ⟨V1.heap.size,0,none⟩) c.fn c.fn):=⟨_,rfl⟩
 have A2':Hid (qB4 V2 (some ⟨V.heap.size,0,none⟩) c.rn c.zs∧qM2 V2 V.heap.size c.rn∧qF1 V2 (some ⟨V1.heap.size,0,none⟩) c.fn ys∧qJ4 V2 (V1.heap.size+1) ys∧qH0 V2 V1.heap.size c.fn∧qA2 ys=qA2 c.fs∧V1.heap.size < V2.heap.size):=by
  rw [hV2]
  obtain ⟨q1,q2,q3⟩:=A2.out
  have hv:=hwV.out
  have hs1:=HS1.out
  refine ⟨q1.set (fun b off e=>by cases e;omega),q2.setAny _ _ _,(qF1.of q3.ln q3.at').set (fun b off e=>by cases e;omega) (fun k x hx b off e=>?_),fun k x hx=>(q3.nw k x hx).setAny _ _ _,q3.rm.setAny _ _ _,q3.ps,by simp only [World.size_setCell];exact q3.lt⟩
  obtain ⟨_,q,e1,e2,_⟩:=q3.nw k x hx
  rw [e1] at e
  cases e
  omega
 have HS2:Hid (V2.heap.size=w2.heap.size):=by rw [hV2];exact World.size_setCell ..
 rw [← hV2] at X2 ⊢
 clear hV2 A2 A1' k0 k1 k2 k3 k4 o0 o1 o2 o3 o4 of
 refine (toInts_room c.ca c.cn c.cc c.cs V2 HLE.out.classes (H.out.classes.below X2.out.bl)).mono ?_
 rintro e w3 ⟨rfl,hat3,hlt3,hb3,hroom3⟩
 have x3:=X2.out.below hb3
 have hz3:=hb3.size
 obtain ⟨d,hd⟩:∃ d:qA4,d=⟨c.e,c.f,some ⟨V.heap.size,0,none⟩,c.rn,c.rn,c.zs,some ⟨V1.heap.size,0,none⟩,c.fn,c.fn,ys,some ⟨V2.heap.size,0,none⟩,c.cn,c.cn,c.cs⟩:=⟨_,rfl⟩
 have HD:Hid (qE6 w3 d∧qL0 w3 (w.heap.size+3) d∧qG8 c d):=by
  obtain ⟨q1,q2,q3,q4,q5,q6,q7⟩:=A2'.out
  have hv:=hwV.out
  have hs1:=HS1.out
  have hs2:=HS2.out
  rw [hd]
  exact ⟨⟨q1.below hb3,q3.below hb3,qF8.of H.out.classes.1 hat3⟩,⟨⟨rfl,_,rfl,by omega,by omega,qZ8 q2 (by omega) hb3⟩,⟨rfl,_,rfl,by omega,by omega,q5.below q7 hb3⟩,fun k x e=>by
   obtain ⟨r0,g,r1,r2,r3⟩:=(q4 k x e).below hb3
   exact ⟨r0,g,r1,by omega,r3⟩,⟨rfl,_,rfl,by omega,hlt3,hroom3⟩⟩,⟨rfl,rfl,rfl,rfl,rfl,q6,rfl,rfl⟩⟩
 obtain ⟨k0,k1,k2,k3,k4⟩:=x3.ar
 obtain ⟨o0,o1,o2,o3,o4,of⟩:=x3.ou
 obtain ⟨r0,r1,r2,r3,r4,rf⟩:=x3.re
 have hw3:w.heap.size+2 < w3.heap.size:=by have:=HS1.out;have:=HS2.out;omega
 have HB:Hid (Below w.heap.size w w3):=x3.bl
 have HDE:Hid (d=⟨c.e,c.f,some ⟨V.heap.size,0,none⟩,c.rn,c.rn,c.zs,some ⟨V1.heap.size,0,none⟩,c.fn,c.fn,ys,some ⟨V2.heap.size,0,none⟩,c.cn,c.cn,c.cs⟩):=hd
 clear hd hat3 hroom3 hb3 x3 X2 A2'
 go_wp2
 refine bodyPost_ret (v:=.agg #[.int .i64 d.e,.int .i64 d.f,.slice d.ra d.rn d.rc,.slice d.fa d.fn d.fc,.slice d.ca d.cn d.cc]) (by rw [HDE.out];simp [results,Tryz.results36,go_sem,o0,o1,o2,o3,o4,r0,r1,r2,r3,r4,hw3]) rfl ⟨d,rfl,HD.out.2.2,?_,?_,?_⟩
 ·refine (?_:CfN _ (w.heap.size+3) d).rd
  repeat (refine CfN.set ?_ (by omega))
  exact ⟨HD.out.1,HD.out.2.1⟩
 ·refine ((?_:CfN _ (w.heap.size+3) d).nw).low (by omega)
  repeat (refine CfN.set ?_ (by omega))
  exact ⟨HD.out.1,HD.out.2.1⟩
 ·repeat (refine Below.setCell ?_ (by simp;try omega) _)
  exact HB.out
theorem QS8 (c d:qA4) (w:World) (hle:qD3 1048576 c) (hsm:qG8 c d) (h:qE6 w c) (h':qE6 w d) :
  Calls Tryz.prog 40 #[.agg #[.int .i64 c.e,.int .i64 c.f,.slice c.ra c.rn c.rc,.slice c.fa c.fn c.fc,.slice c.ca c.cn c.cc],.agg #[.int .i64 d.e,.int .i64 d.f,.slice d.ra d.rn d.rc,.slice d.fa d.fn d.fc,.slice d.ca d.cn d.cc]] w fun e w'=>e = .returned (.bool true)∧Below w.heap.size w w':=by
 obtain ⟨d0,d1,da,dn,dc,dz,ea,en,ec,ds,ga,gn,gc,gs⟩:=d
 obtain ⟨e1,e2,e3,e4,e5,e6,e7,e8⟩:=hsm
 simp only at e1 e2 e3 e4 e5 e6 e7 e8
 subst e1 e2 e3 e4 e5 e7 e8
 have HP:Hid (qA2 ds=qA2 c.fs):=e6
 have HLE:Hid (qD3 1048576 c):=hle
 have H:Hid (qE6 w c):=h
 have H':Hid (qB4 w da c.rn c.zs∧qF1 w ea c.fn ds∧qF8 w ga c.cn c.cs):=⟨h'.rules,h'.forms,h'.classes⟩
 clear h h' hle e6
 obtain ⟨W,hW⟩:∃ W,W=(w.alloc (.cells #[.int .i64 c.e,.int .i64 c.f,.slice c.ra c.rn c.rc,.slice c.fa c.fn c.fc,.slice c.ca c.cn c.cc] 71)).alloc (.cells #[.int .i64 c.e,.int .i64 c.f,.slice da c.rn dc,.slice ea c.fn ec,.slice ga c.cn gc] 71):=⟨_,rfl⟩
 have hs:W.heap.size=w.heap.size+2:=by rw [hW];simp
 have B0:Below w.heap.size w W:=by rw [hW];exact (zN).alloc (by simp) _
 have a3:W.cell? ⟨w.heap.size,3,none⟩=some (.slice c.fa c.fn c.fc):=by rw [hW];go_cell
 have a4:W.cell? ⟨w.heap.size,4,none⟩=some (.slice c.ca c.cn c.cc):=by rw [hW];go_cell
 have b3:W.cell? ⟨w.heap.size+1,3,none⟩=some (.slice ea c.fn ec):=by rw [hW];go_cell
 have b4:W.cell? ⟨w.heap.size+1,4,none⟩=some (.slice ga c.cn gc):=by rw [hW];go_cell
 go_enter Tryz.func40,Tryz.ntmps40
 go_wp2_with fail
 rw [← hW]
 clear hW
 refine (QY6 c.ra da c.rn c.rc dc c.zs W HLE.out.rules (H.out.rules.below B0) (H'.out.1.below B0)).mono ?_
 rintro e w1 ⟨rfl,hb1⟩
 have hz1:=hb1.size
 obtain ⟨hc,hf⟩:=bcell hb1
 have p3:=(hc w.heap.size 3 (by omega)).trans a3
 have p4:=(hc w.heap.size 4 (by omega)).trans a4
 have r3:=(hc (w.heap.size+1) 3 (by omega)).trans b3
 have r4:=(hc (w.heap.size+1) 4 (by omega)).trans b4
 have B1:Hid (Below w.heap.size w w1):=B0.trans (hb1.mono (by omega))
 have hw1:w.heap.size+1 < w1.heap.size:=by omega
 clear hc hf hb1 a3 a4 b3 b4 B0 hs
 go_wp2_with fail
 refine (QZ0 c.fa ea c.fn c.fc ec c.fs ds w1 HLE.out.forms HLE.out.parts HP.out (H.out.forms.below B1.out) (H'.out.2.1.below B1.out)).mono ?_
 rintro e w2 ⟨rfl,hb2⟩
 have hz2:=hb2.size
 obtain ⟨hc,hf⟩:=bcell hb2
 have q4:=(hc w.heap.size 4 (by omega)).trans p4
 have s4:=(hc (w.heap.size+1) 4 (by omega)).trans r4
 have B2:Hid (Below w.heap.size w w2):=B1.out.trans (hb2.mono (by omega))
 have hw2:w.heap.size+1 < w2.heap.size:=by omega
 clear hc hf hb2 p3 p4 r3 r4
 go_wp2_with fail
 refine (QY9 c.ca ga c.cn c.cc gc c.cs w2 HLE.out.classes (H.out.classes.below B2.out) (H'.out.2.2.below B2.out)).mono ?_
 rintro e w3 ⟨rfl,hb3⟩
 have B3:Below w.heap.size w w3:=B2.out.trans (hb3.mono B2.out.size)
 clear hb3 q4 s4
 go_wp2
 go_ret
 exact ⟨rfl,B3⟩
theorem qG8.le {w w':World} {c d:qA4} {m:Nat} (h:qG8 c d) (hc:qE6 w c) (hd:qE6 w' d) (hle:qD3 m c):qD3 m d:=by
 refine ⟨by rw [h.rn];exact hle.rules,by rw [h.fn];exact hle.forms,qJ4.le (L:=0) hd.forms (fun k x e=>?_) h.ps hle.parts,by rw [h.cn];exact hle.classes⟩
 have hk:k < c.fn:=by
  by_cases q:k < c.fn
  ·exact q
  ·rw [List.getElem?_eq_none (by rw [hc.forms.1];omega)] at e;cases e
 obtain ⟨b,off,y,_,e',hat⟩:=hc.forms.at hk
 rw [e] at e'
 cases e'
 exact hat.2.1
theorem qG8.trans {c d f:qA4} (h:qG8 c d) (g:qG8 c f):qG8 d f :=
 ⟨g.e.trans h.e.symm,g.f.trans h.f.symm,g.rn.trans h.rn.symm,g.zs.trans h.zs.symm,g.fn.trans h.fn.symm,g.ps.trans h.ps.symm,g.cn.trans h.cn.symm,g.cs.trans h.cs.symm⟩
theorem qL0.cap {w:World} {L:Nat} {d:qA4} (h:qL0 w L d):d.rn≤d.rc:=by rw [h.rules.1];exact Nat.le_refl _

theorem iBad_c (v:Int) (w:World):Calls Tryz.prog 146 #[.int .i64 v] w fun e w'=>e = .returned (.bool (inR v 1 2))∧w=w':=by
 unfold inR
 cases h0:decide (1≤v)
 ·go_enter Tryz.func146,Tryz.ntmps146
  go_wp2
  go_ret
  exact ⟨by simp,rfl⟩
 ·cases h1:decide (v≤2)
  all_goals
   go_enter Tryz.func146,Tryz.ntmps146
   go_wp2
   go_ret
   exact ⟨by simp,rfl⟩
theorem l6F_c (v:Int) (w:World):Calls Tryz.prog 113 #[.int .i64 v] w fun e w'=>e = .returned (.bool (inR v 1 2))∧w=w':=by
 go_enter Tryz.func113,Tryz.ntmps113
 go_wp2_with (go_at_call 51;refine (qV9 _ _ _ _).mono ?_;rintro e w' ⟨rfl,rfl⟩)
 go_ret
 exact ⟨rfl,rfl⟩
def GivesNF (fn:Nat) (f c v:Int) (w:World):Prop:=Calls Tryz.prog fn #[.int .i64 f] w fun e w'=>e = .returned (.agg #[.int .i64 c,.int .i64 v])∧Below w.heap.size w w'
def nfCode (f:Int):Int:=if inR f 1 2=true then 0 else 3
def nfVal (k f:Int):Int:=if inR f 1 2=true then k * f+1 else 0
theorem QF4 (f:Int) (w:World):GivesNF 92 f (nfCode f) (nfVal 3 f) w:=by
 unfold GivesNF nfCode nfVal
 cases h:inR f 1 2
 ·have H:Hid (inR f 1 2=false):=h
  clear h
  simp only [Bool.false_eq_true,if_false]
  go_enter Tryz.func92,Tryz.ntmps92
  go_wp2_with (first | (go_at_call 146;refine (iBad_c _ _).mono ?_;rintro e w' ⟨rfl,rfl⟩;rw [H.out]) | go_in)
  go_returns
  exact ⟨rfl,by go_grown⟩
 ·have H:Hid (inR f 1 2=true):=h
  obtain ⟨h1,h2⟩:=(qF7 f 1 2).1 h
  clear h
  simp only [if_true]
  go_enter Tryz.func92,Tryz.ntmps92
  go_wp2_with (first | (go_at_call 146;refine (iBad_c _ _).mono ?_;rintro e w' ⟨rfl,rfl⟩;rw [H.out]) | go_in)
  go_returns
  exact ⟨rfl,by go_grown⟩

def QG6 (pss:List (List qC5)):Nat→Int
 | 0=>0
 | k+1=>if QG6 pss k≠0 then QG6 pss k else match pss[k]? with
  | none=>0
  | some x=>qL6 x
def qI9 (pss:List (List qC5)):Int:=if 4 < pss.length then 2 else QG6 pss pss.length
theorem QK7 (zs:List (List qC5)) (k m:Nat) (c:Int) (hc:c≠0) (h:QG6 zs k=c) (hm:k≤m):QG6 zs m=c:=by
  induction m with
  | zero => obtain rfl:k=0:=by omega
            exact h
  | succ m ih =>
    by_cases e:k=m+1
    · subst e;exact h
    · have:=ih (by omega)
      simp only [QG6,this]
      rw [if_pos hc]
theorem QK8 {zs:List (List qC5)} {k:Nat} {x:List qC5} (hk:zs[k]? = some x) (h0:QG6 zs k=0):QG6 zs (k+1)=qL6 x:=by
 simp [QG6,h0,hk]
theorem qT4 {fs:List qG1} {k:Nat} {x:qG1} (h:fs[k]? = some x):(qA2 fs)[k]? = some x.ps:=by
 unfold qA2
 rw [List.getElem?_map,h]
 rfl
theorem qY1 (fs:List qG1):(qA2 fs).length=fs.length:=by unfold qA2;simp
def qG6 (e f:Int) (zs:List qA0) (pss:List (List qC5)) (cs:List Int):Int:=if inR e 1 9=false then 3 else if inR f 1 2=false then 3 else orJ (qC2 zs) (orJ (qI9 pss) (qF6 cs))
theorem QE1 {e f:Int} {zs:List qA0} {pss:List (List qC5)} {cs:List Int} (h:qG6 e f zs pss cs=0):inR e 1 9=true∧inR f 1 2=true∧qC2 zs=0∧qI9 pss=0∧qF6 cs=0:=by
 unfold qG6 at h
 split at h
 ·cases h
 ·split at h
  ·cases h
  ·rename_i q1 q2
   unfold orJ at h
   split at h
   ·split at h
    ·exact ⟨by simpa using q1,by simpa using q2,by assumption,by assumption,h⟩
    ·exact absurd h (by assumption)
   ·exact absurd h (by assumption)
theorem fm_zero {pss:List (List qC5)} (h:qI9 pss=0):pss.length≤4∧∀ (k:Nat) (x:List qC5),pss[k]? = some x→qL6 x=0:=by
 unfold qI9 at h
 split at h
 ·cases h
 ·refine ⟨by omega,fun k x e=>?_⟩
  have hk:k < pss.length:=by
   by_cases q:k < pss.length
   ·exact q
   ·rw [List.getElem?_eq_none (by omega)] at e;cases e
  have key:∀ j,j≤pss.length→QG6 pss j=0:=fun j hj=>by
   by_cases q:QG6 pss j=0
   ·exact q
   ·have:=QK7 pss j pss.length _ q rfl hj
    rw [this] at h
    exact absurd h q
  have h1:=key (k+1) (by omega)
  rw [QK8 e (key k (by omega))] at h1
  exact h1
theorem or364_c (g:Nat) (c d f:Int) (w:World) (h0:w.cell? ⟨g,0,none⟩=some (.int .i64 c)) (h1:w.cell? ⟨g,1,none⟩=some (.int .i64 d)) (h2:w.cell? ⟨g,2,none⟩=some (.int .i64 f)) :
  Calls Tryz.prog 147 #[.slice (some ⟨g,0,none⟩) 3 3] w fun e w'=>e = .returned (.int .i64 (orJ c (orJ d f)))∧w=w':=by
 go_enter Tryz.func147,Tryz.ntmps147
 go_wp2
 go_loop [8] (fun i=>∃ k:Nat,k≤3∧i = .int .i64 (k:Int)∧(1≤k→c=0)∧(2≤k→d=0)∧(3≤k→f=0)) (fun i=>3 - (intOf i).toNat)
 case atStart=>exact ⟨0,by omega,rfl,fun h=>by omega,fun h=>by omega,fun h=>by omega⟩
 case round =>
  obtain ⟨k,hk,rfl,hc,hd,hf⟩:=hrel
  have hk':k=0∨k=1∨k=2∨k=3:=by omega
  rcases hk' with rfl | rfl | rfl | rfl
  ·clear hc hd hf
   by_cases e:c=0
   ·have b:(c != 0)=false:=by simp [e]
    have HE:Hid (c=0):=e
    clear e
    go_wp2
    exact ⟨⟨1,by omega,by go_num,fun _=>HE.out,fun h=>by omega,fun h=>by omega⟩,by simp [intOf]⟩
   ·have b:(c != 0)=true:=by simp [e]
    go_wp2
    go_ret
    exact ⟨by simp [orJ,e],rfl⟩
  ·have HC:Hid (c=0):=hc (by omega)
   clear hc hd hf
   by_cases e:d=0
   ·have b:(d != 0)=false:=by simp [e]
    have HE:Hid (d=0):=e
    clear e
    go_wp2
    exact ⟨⟨2,by omega,by go_num,fun _=>HC.out,fun _=>HE.out,fun h=>by omega⟩,by simp [intOf]⟩
   ·have b:(d != 0)=true:=by simp [e]
    go_wp2
    go_ret
    exact ⟨by simp [orJ,HC.out,e],rfl⟩
  ·have HC:Hid (c=0):=hc (by omega)
   have HD:Hid (d=0):=hd (by omega)
   clear hc hd hf
   by_cases e:f=0
   ·have b:(f != 0)=false:=by simp [e]
    have HE:Hid (f=0):=e
    clear e
    go_wp2
    exact ⟨⟨3,by omega,by go_num,fun _=>HC.out,fun _=>HD.out,fun _=>HE.out⟩,by simp [intOf]⟩
   ·have b:(f != 0)=true:=by simp [e]
    go_wp2
    go_ret
    exact ⟨by simp [orJ,HC.out,HD.out],rfl⟩
  ·have HC:Hid (c=0):=hc (by omega)
   have HD:Hid (d=0):=hd (by omega)
   have HF:Hid (f=0):=hf (by omega)
   clear hc hd hf
   go_wp2
   go_ret
   exact ⟨by simp [orJ,HC.out,HD.out,HF.out],rfl⟩
theorem kpC_new {W w:World} (h:(∀ b o,b < W.heap.size→w.cell? ⟨b,o,none⟩=W.cell? ⟨b,o,none⟩)∧Below W.heap.size W w) (o:Obj):(∀ b i,b < W.heap.size→(w.alloc o).cell? ⟨b,i,none⟩=W.cell? ⟨b,i,none⟩)∧Below W.heap.size W (w.alloc o) :=
 qA6 h (zN)
theorem QY0 (a:Option Addr) (n cap:Nat) (fs:List qG1) (w:World) (hn:n≤1048576) (hle:qK9 1048576 fs) (h:qF1 w a n fs) :
  Calls Tryz.prog 149 #[.slice a n cap] w fun e w'=>e = .returned (.int .i64 (qI9 (qA2 fs)))∧Below w.heap.size w w':=by
 have H:Hid (qF1 w a n fs):=h
 have HZ:Hid ((qA2 fs).length=n):=by show (qA2 fs).length=n;rw [qY1];exact h.1
 have HLE:Hid (qK9 1048576 fs):=hle
 clear h hle
 by_cases h4:4 < n
 ·have HC:Hid (qI9 (qA2 fs)=2):=by show qI9 (qA2 fs)=2;unfold qI9;rw [if_pos (by rw [HZ.out];exact h4)]
  have h4':(4:Int) < (n:Int):=by omega
  go_enter Tryz.func149,Tryz.ntmps149
  go_wp2
  go_ret
  exact ⟨by rw [HC.out];rfl,Below.refl _ _⟩
 ·have HC:Hid (qI9 (qA2 fs)=QG6 (qA2 fs) n):=by show qI9 (qA2 fs)=QG6 (qA2 fs) n;unfold qI9;rw [if_neg (by rw [HZ.out];exact h4),HZ.out]
  have h4':(n:Int)≤4:=by omega
  rw [HC.out]
  go_enter Tryz.func149,Tryz.ntmps149
  go_wp2
  go_loopw [11] (fun i wr=>∃ k:Nat,k≤n∧i = .int .i64 (k:Int)∧QG6 (qA2 fs) k=0∧Below w.heap.size w wr) (fun i _=>n - (intOf i).toNat)
  case atStart=>exact ⟨0,Nat.zero_le _,rfl,rfl,Below.refl _ _⟩
  case round =>
   obtain ⟨k,hk,rfl,hz,hnx⟩:=hrel
   have HK:Hid (QG6 (qA2 fs) k=0):=hz
   clear hz
   by_cases hlt:k < n
   ·obtain ⟨b,off,x,rfl,hs,hr⟩:=H.out.at hlt
    have HS:Hid ((qA2 fs)[k]? = some x.ps):=qT4 hs
    have hx:x.n≤1048576:=HLE.out k x hs
    have hb:b < w.heap.size:=hr.lt
    have hc:=(hr.below hnx).1
    have HP:Hid (qB9 wr x.a x.n x.ps):=(hr.below hnx).2
    clear hs hr
    have hlt':(k:Int) < (n:Int):=by omega
    have hA:Below wr.heap.size wr (wr.alloc (.cells #[.slice x.a x.n x.cap] 118)):=zN
    obtain ⟨q,hq⟩:∃ q,qL6 x.ps=q:=⟨_,rfl⟩
    go_wp2_with fail
    refine (qV4 x.a x.n x.cap x.ps _ (by unfold maxLen;omega) (HP.out.below hA)).mono ?_
    rintro e w1 ⟨rfl,hb1⟩
    rw [hq]
    have hb01:Below w.heap.size w w1:=hnx.trans ((hA.trans (hb1.mono hA.size)).mono hnx.size)
    have HQ:Hid (QG6 (qA2 fs) (k+1)=q):=by show QG6 (qA2 fs) (k+1)=q;rw [QK8 HS.out HK.out];exact hq
    clear hc hq hA hb1
    by_cases q0:q=0
    ·have qb:(q != 0)=false:=by simp [q0]
     have HQ0:Hid (q=0):=q0
     clear q0
     go_wp2
     exact ⟨⟨k+1,by omega,by go_num,by rw [HQ.out];exact HQ0.out,hb01⟩,by simp [intOf];omega⟩
    ·have qb:(q != 0)=true:=by simp [q0]
     have HE:Hid (QG6 (qA2 fs) n=q):=QK7 _ _ _ _ q0 HQ.out (by omega)
     go_wp2
     go_ret
     exact ⟨by rw [HE.out];rfl,hb01⟩
   ·have hkn:k=n:=by omega
    subst hkn
    go_wp2
    go_ret
    exact ⟨by rw [HK.out];rfl,hnx⟩
theorem QZ9 (a:Option Addr) (n cap:Nat) (zs:List Int) (w:World) (h:qF8 w a n zs) :
  Calls Tryz.prog 150 #[.slice a n cap] w fun e w'=>e = .returned (.int .i64 (qF6 zs))∧w=w':=by
 have HI:Hid (qF8 w a n zs):=h
 clear h
 go_enter Tryz.func150,Tryz.ntmps150
 go_wp2_with (go_at_call 161;refine (qF3 _ _ _ zs _ HI.out).mono ?_;rintro e w' ⟨rfl,rfl⟩)
 go_ret
 exact ⟨rfl,rfl⟩
theorem epochOf_c (c:qA4) (w:World):Calls Tryz.prog 119 #[.agg #[.int .i64 c.e,.int .i64 c.f,.slice c.ra c.rn c.rc,.slice c.fa c.fn c.fc,.slice c.ca c.cn c.cc]] w fun e w'=>e = .returned (.agg #[.slice c.ca c.cn c.cc,.int .i64 c.e,.int .i64 c.f,.slice c.ra c.rn c.rc,.slice c.fa c.fn c.fc])∧Below w.heap.size w w':=by
 go_enter Tryz.func119,Tryz.ntmps119
 go_wp2
 go_returns
 exact ⟨rfl,by go_grown⟩
theorem QZ1 (c:qA4) (w:World) (hle:qD3 1048576 c) (hrc:c.rn≤c.rc) (hrm:c.rc≤maxLen) (h:qE6 w c) :
  Calls Tryz.prog 120 #[.agg #[.slice c.ca c.cn c.cc,.int .i64 c.e,.int .i64 c.f,.slice c.ra c.rn c.rc,.slice c.fa c.fn c.fc]] w fun e w'=>e = .returned (.int .i64 (qG6 c.e c.f c.zs (qA2 c.fs) c.cs))∧Below w.heap.size w w':=by
 obtain ⟨t1,h1⟩:∃ t,inR c.e 1 9=t:=⟨_,rfl⟩
 obtain ⟨t2,h2⟩:∃ t,inR c.f 1 2=t:=⟨_,rfl⟩
 have H1:Hid (inR c.e 1 9=t1):=h1
 have H2:Hid (inR c.f 1 2=t2):=h2
 cases t1
 ·have HV:Hid (qG6 c.e c.f c.zs (qA2 c.fs) c.cs=3):=by show qG6 _ _ _ _ _=3;unfold qG6;rw [if_pos h1]
  clear h1 h2 h
  go_enter Tryz.func120,Tryz.ntmps120
  go_wp2_with (first | (go_at_call 131;refine (qH1 _ _).mono ?_;rintro e w' ⟨rfl,rfl⟩;rw [H1.out]))
  go_ret
  exact ⟨by rw [HV.out];rfl,by go_grown⟩
 ·cases t2
  ·have HV:Hid (qG6 c.e c.f c.zs (qA2 c.fs) c.cs=3):=by show qG6 _ _ _ _ _=3;unfold qG6;rw [if_neg (by simp [h1]),if_pos h2]
   clear h1 h2 h
   go_enter Tryz.func120,Tryz.ntmps120
   go_wp2_with (first | (go_at_call 131;refine (qH1 _ _).mono ?_;rintro e w' ⟨rfl,rfl⟩;rw [H1.out]) | (go_at_call 146;refine (iBad_c _ _).mono ?_;rintro e w' ⟨rfl,rfl⟩;rw [H2.out]))
   go_ret
   exact ⟨by rw [HV.out];rfl,by go_grown⟩
  ·have HV:Hid (qG6 c.e c.f c.zs (qA2 c.fs) c.cs=orJ (qC2 c.zs) (orJ (qI9 (qA2 c.fs)) (qF6 c.cs))):=by show qG6 _ _ _ _ _=_;unfold qG6;rw [if_neg (by simp [h1]),if_neg (by simp [h2])]
   rw [HV.out]
   obtain ⟨W,hW⟩:∃ W,W=w.alloc (.cells #[.slice c.ca c.cn c.cc,.int .i64 c.e,.int .i64 c.f,.slice c.ra c.rn c.rc,.slice c.fa c.fn c.fc] 175):=⟨_,rfl⟩
   have hs:W.heap.size=w.heap.size+1:=by rw [hW];simp
   have B0:Below w.heap.size w W:=by rw [hW];exact zN
   have c0:W.cell? ⟨w.heap.size,0,none⟩=some (.slice c.ca c.cn c.cc):=by rw [hW];simp
   have c3:W.cell? ⟨w.heap.size,3,none⟩=some (.slice c.ra c.rn c.rc):=by rw [hW];simp
   have c4:W.cell? ⟨w.heap.size,4,none⟩=some (.slice c.fa c.fn c.fc):=by rw [hW];simp
   have HP:Hid (∀ w2:World,(∀ b o,b < W.heap.size→w2.cell? ⟨b,o,none⟩=W.cell? ⟨b,o,none⟩)∧Below W.heap.size W w2→Calls Tryz.prog 148 #[.slice c.ra c.rn c.rc] w2 fun e w'=>e = .returned (.int .i64 (qC2 c.zs))∧Below w2.heap.size w2 w'):=fun w2 q=>qT9 c.ra c.rn c.rc c.zs w2 hle.rules hrc hrm (h.rules.below (B0.trans (q.2.mono (by omega))))
   have HF:Hid (∀ w2:World,(∀ b o,b < W.heap.size→w2.cell? ⟨b,o,none⟩=W.cell? ⟨b,o,none⟩)∧Below W.heap.size W w2→Calls Tryz.prog 149 #[.slice c.fa c.fn c.fc] w2 fun e w'=>e = .returned (.int .i64 (qI9 (qA2 c.fs)))∧Below w2.heap.size w2 w'):=fun w2 q=>QY0 c.fa c.fn c.fc c.fs w2 hle.forms hle.parts (h.forms.below (B0.trans (q.2.mono (by omega))))
   have HK:Hid (∀ w2:World,(∀ b o,b < W.heap.size→w2.cell? ⟨b,o,none⟩=W.cell? ⟨b,o,none⟩)∧Below W.heap.size W w2→Calls Tryz.prog 150 #[.slice c.ca c.cn c.cc] w2 fun e w'=>e = .returned (.int .i64 (qF6 c.cs))∧Below w2.heap.size w2 w'):=fun w2 q=>(QZ9 c.ca c.cn c.cc c.cs w2 (h.classes.below (B0.trans (q.2.mono (by omega))))).mono fun e w' hh=>⟨hh.1,hh.2 ▸ Below.refl _ _⟩
   clear h hle h1 h2
   generalize qC2 c.zs=p at HP ⊢
   generalize qI9 (qA2 c.fs)=q at HF ⊢
   generalize qF6 c.cs=r at HK ⊢
   go_enter Tryz.func120,Tryz.ntmps120
   go_wp2_with (first | (go_at_call 131;refine (qH1 _ _).mono ?_;rintro e w' ⟨rfl,rfl⟩;rw [H1.out]) | (go_at_call 146;refine (iBad_c _ _).mono ?_;rintro e w' ⟨rfl,rfl⟩;rw [H2.out]))
   rw [← hW]
   clear hW
   go_region_held3 (fun w'=>(∀ b o,b < W.heap.size→w'.cell? ⟨b,o,none⟩=W.cell? ⟨b,o,none⟩)∧Below W.heap.size W w') (first | exact hS | exact qB5 _ | exact kpC_new (by assumption) _)
    (first | (go_at_call 148;refine (HP.out _ (by assumption)).mono ?_;rintro e w' ⟨rfl,hb2⟩;have hS:=qA6 (by assumption) hb2) | (go_at_call 149;refine (HF.out _ (by assumption)).mono ?_;rintro e w' ⟨rfl,hb2⟩;have hS:=qA6 (by assumption) hb2) | (go_at_call 150;refine (HK.out _ (by assumption)).mono ?_;rintro e w' ⟨rfl,hb2⟩;have hS:=qA6 (by assumption) hb2) | (go_at_call 147;refine (or364_c _ p q r _ ?_ ?_ ?_).mono ?_;(· simp [go_sem]);(· simp [go_sem]);(· simp [go_sem]);rintro e w' ⟨rfl,rfl⟩))
   all_goals
    have hS3:=kpC_new hS (.cells #[.int .i64 p,.int .i64 q,.int .i64 r] 2)
    go_wp2
    go_ret
    exact ⟨rfl,B0.trans (hS3.2.mono (by omega))⟩
theorem qU0 (c:qA4) (w:World) (hle:qD3 1048576 c) (hrc:c.rn≤c.rc) (hrm:c.rc≤maxLen) (h:qE6 w c) :
  Calls Tryz.prog 90 #[.agg #[.int .i64 c.e,.int .i64 c.f,.slice c.ra c.rn c.rc,.slice c.fa c.fn c.fc,.slice c.ca c.cn c.cc]] w fun e w'=>e = .returned (.int .i64 (qG6 c.e c.f c.zs (qA2 c.fs) c.cs))∧Below w.heap.size w w':=by
 have H:Hid (qE6 w c):=h
 have HLE:Hid (qD3 1048576 c):=hle
 clear h hle
 have hA:Below w.heap.size w (w.alloc (.cells #[.int .i64 c.e,.int .i64 c.f,.slice c.ra c.rn c.rc,.slice c.fa c.fn c.fc,.slice c.ca c.cn c.cc] 71)):=zN
 obtain ⟨v,hv⟩:∃ v,qG6 c.e c.f c.zs (qA2 c.fs) c.cs=v:=⟨_,rfl⟩
 rw [hv]
 have HF:Hid (∀ w2:World,Below w.heap.size w w2→Calls Tryz.prog 120 #[.agg #[.slice c.ca c.cn c.cc,.int .i64 c.e,.int .i64 c.f,.slice c.ra c.rn c.rc,.slice c.fa c.fn c.fc]] w2 fun e w'=>e = .returned (.int .i64 v)∧Below w2.heap.size w2 w'):=fun w2 q=>by rw [← hv];exact QZ1 c w2 HLE.out hrc hrm (H.out.below q)
 clear hv
 go_enter Tryz.func90,Tryz.ntmps90
 go_wp2_with fail
 refine (epochOf_c c _).mono ?_
 rintro e w1 ⟨rfl,hb1⟩
 have hB1:Below w.heap.size w w1:=hA.trans (hb1.mono hA.size)
 clear hA hb1
 go_wp2_with fail
 refine (HF.out _ hB1).mono ?_
 rintro e w2 ⟨rfl,hb2⟩
 have hB2:Below w.heap.size w w2:=hB1.trans (hb2.mono hB1.size)
 clear hb2 hB1
 go_wp2
 go_ret
 exact ⟨rfl,hB2⟩

def qH6 (w:World) (g o:Nat) (c:qA4):Prop:=w.cell? ⟨g,o,none⟩=some (.int .i64 c.e)∧w.cell? ⟨g,o+1,none⟩=some (.int .i64 c.f)∧w.cell? ⟨g,o+2,none⟩=some (.slice c.ra c.rn c.rc)∧w.cell? ⟨g,o+3,none⟩=some (.slice c.fa c.fn c.fc)∧w.cell? ⟨g,o+4,none⟩=some (.slice c.ca c.cn c.cc)
theorem qH6.lt {w:World} {g o:Nat} {c:qA4} (h:qH6 w g o c):g < w.heap.size:=zL w ⟨g,o,none⟩ h.1
theorem qH6.below {w w':World} {g o:Nat} {c:qA4} (h:qH6 w g o c) (hb:Below w.heap.size w w'):qH6 w' g o c:=by
 obtain ⟨h0,h1,h2,h3,h4⟩:=h
 have hl:=zL w ⟨g,o,none⟩ h0
 exact ⟨(hb.cell (p:=⟨g,o,none⟩) hl).trans h0,(hb.cell (p:=⟨g,o+1,none⟩) hl).trans h1,(hb.cell (p:=⟨g,o+2,none⟩) hl).trans h2,(hb.cell (p:=⟨g,o+3,none⟩) hl).trans h3,(hb.cell (p:=⟨g,o+4,none⟩) hl).trans h4⟩
theorem l6Fault_o (g o:Nat) (c:qA4) (w:World) (hle:qD3 1048576 c) (hk:qH6 w g o c) (h:qE6 w c) :
  Calls Tryz.prog 87 #[.pointer (some ⟨g,o,none⟩)] w fun e w'=>e = .returned (.int .i64 (qG6 c.e c.f c.zs (qA2 c.fs) c.cs))∧Below w.heap.size w w':=by
 obtain ⟨t1,h1⟩:∃ t,inR c.e 1 9=t:=⟨_,rfl⟩
 obtain ⟨t2,h2⟩:∃ t,inR c.f 1 2=t:=⟨_,rfl⟩
 have H1:Hid (inR c.e 1 9=t1):=h1
 have H2:Hid (inR c.f 1 2=t2):=h2
 have hg:g < w.heap.size:=hk.lt
 have HK:Hid (qH6 w g o c):=hk
 obtain ⟨k0,k1,k2,k3,k4⟩:=hk
 cases t1
 ·have HV:Hid (qG6 c.e c.f c.zs (qA2 c.fs) c.cs=3):=by show qG6 _ _ _ _ _=3;unfold qG6;rw [if_pos h1]
  clear h1 h2 h
  go_enter Tryz.func87,Tryz.ntmps87
  go_wp2_with (first | (go_at_call 95;refine (qR7 _ _).mono ?_;rintro e w' ⟨rfl,rfl⟩;rw [H1.out]))
  go_ret
  exact ⟨by rw [HV.out];rfl,by go_grown⟩
 ·cases t2
  ·have HV:Hid (qG6 c.e c.f c.zs (qA2 c.fs) c.cs=3):=by show qG6 _ _ _ _ _=3;unfold qG6;rw [if_neg (by simp [h1]),if_pos h2]
   clear h1 h2 h
   go_enter Tryz.func87,Tryz.ntmps87
   go_wp2_with (first | (go_at_call 95;refine (qR7 _ _).mono ?_;rintro e w' ⟨rfl,rfl⟩;rw [H1.out]) | (go_at_call 113;refine (l6F_c _ _).mono ?_;rintro e w' ⟨rfl,rfl⟩;rw [H2.out]))
   go_ret
   exact ⟨by rw [HV.out];rfl,by go_grown⟩
  ·have HV:Hid (qG6 c.e c.f c.zs (qA2 c.fs) c.cs=orJ (qC2 c.zs) (orJ (qI9 (qA2 c.fs)) (qF6 c.cs))):=by show qG6 _ _ _ _ _=_;unfold qG6;rw [if_neg (by simp [h1]),if_neg (by simp [h2])]
   rw [HV.out]
   have HLE:Hid (qD3 1048576 c):=hle
   have H:Hid (qE6 w c):=h
   clear h1 h2 h hle
   obtain ⟨p,hp⟩:∃ p,qC2 c.zs=p:=⟨_,rfl⟩
   obtain ⟨r,hr⟩:∃ r,qF6 c.cs=r:=⟨_,rfl⟩
   have HP:Hid (Calls Tryz.prog 114 #[.slice c.ra c.rn c.rc] w fun e w'=>e = .returned (.int .i64 p)∧Below w.heap.size w w'):=by rw [← hp];exact l2Fault_c c.ra c.rn c.rc c.zs w HLE.out.rules H.out.rules
   have HR:Hid (∀ w2:World,Below w.heap.size w w2→Calls Tryz.prog 116 #[.slice c.ca c.cn c.cc] w2 fun e w'=>e = .returned (.int .i64 r)∧w2=w'):=fun w2 q=>by rw [← hr];exact l5Classes_c c.ca c.cn c.cc c.cs w2 (H.out.classes.below q)
   rw [hp,hr]
   clear hp hr
   have HZ:Hid ((qA2 c.fs).length=c.fn):=by show (qA2 c.fs).length=c.fn;rw [qY1];exact H.out.forms.1
   have hfn:(c.fn:Int)≤1048576:=by have:=HLE.out.forms;omega
   go_enter Tryz.func87,Tryz.ntmps87
   go_wp2_with (first | (go_at_call 95;refine (qR7 _ _).mono ?_;rintro e w' ⟨rfl,rfl⟩;rw [H1.out]) | (go_at_call 113;refine (l6F_c _ _).mono ?_;rintro e w' ⟨rfl,rfl⟩;rw [H2.out]) | fail)
   refine HP.out.mono ?_
   rintro e w1 ⟨rfl,hb1⟩
   obtain ⟨d0,d1,d2,d3,d4⟩:=HK.out.below hb1
   have hg1:g < w1.heap.size:=by have:=hb1.size;omega
   clear k0 k1 k2 k3 k4 d0 d1 d2
   by_cases p0:p=0
   ·have pb:(p != 0)=false:=by simp [p0]
    have HPO:Hid (∀ x,orJ p x=x):=fun x=>by simp [orJ,p0]
    clear p0
    by_cases h4:4 < c.fn
    ·have HC:Hid (qI9 (qA2 c.fs)=2):=by show qI9 (qA2 c.fs)=2;unfold qI9;rw [if_pos (by rw [HZ.out];exact h4)]
     have h4':(4:Int) < (c.fn:Int):=by omega
     go_wp2
     go_ret
     exact ⟨by rw [HPO.out,HC.out];rfl,hb1⟩
    ·have HC:Hid (qI9 (qA2 c.fs)=QG6 (qA2 c.fs) c.fn):=by show qI9 (qA2 c.fs)=QG6 (qA2 c.fs) c.fn;unfold qI9;rw [if_neg (by rw [HZ.out];exact h4),HZ.out]
     have h4':(c.fn:Int)≤4:=by omega
     go_wp2
     go_loopw [4] (fun i wr=>∃ k:Nat,k≤c.fn∧i = .int .i64 (k:Int)∧QG6 (qA2 c.fs) k=0∧Below w.heap.size w wr) (fun i _=>c.fn - (intOf i).toNat)
     case atStart=>exact ⟨0,Nat.zero_le _,rfl,rfl,hb1⟩
     case round =>
      obtain ⟨k,hk,rfl,hz,hnx⟩:=hrel
      have HK0:Hid (QG6 (qA2 c.fs) k=0):=hz
      obtain ⟨m0,m1,m2,m3,m4⟩:=HK.out.below hnx
      have hgr:g < wr.heap.size:=by have:=hnx.size;omega
      clear hz d3 d4 m0 m1 m2
      by_cases hlt:k < c.fn
      ·obtain ⟨b,off,x,hfa,hs,hr⟩:=H.out.forms.at hlt
       have HS:Hid ((qA2 c.fs)[k]? = some x.ps):=qT4 hs
       have hx:x.n≤1048576:=HLE.out.parts k x hs
       have hb:b < w.heap.size:=hr.lt
       have hc:=(hr.below hnx).1
       have HPI:Hid (qB9 wr x.a x.n x.ps):=(hr.below hnx).2
       rw [hfa] at m3
       have hbr:b < wr.heap.size:=by have:=hnx.size;omega
       clear hs hr hfa
       have hlt':(k:Int) < (c.fn:Int):=by omega
       obtain ⟨q,hq⟩:∃ q,qL6 x.ps=q:=⟨_,rfl⟩
       go_wp2_with fail
       refine (l4Fault_c x.a x.n x.cap x.ps _ (by unfold maxLen;omega) HPI.out).mono ?_
       rintro e w2 ⟨rfl,hb2⟩
       rw [hq]
       have hb02:Below w.heap.size w w2:=hnx.trans (hb2.mono hnx.size)
       have HQ:Hid (QG6 (qA2 c.fs) (k+1)=q):=by show QG6 (qA2 c.fs) (k+1)=q;rw [QK8 HS.out HK0.out];exact hq
       clear hc hq hb2 m3 m4
       by_cases q0:q=0
       ·have qb:(q != 0)=false:=by simp [q0]
        have HQ0:Hid (q=0):=q0
        clear q0
        go_wp2
        exact ⟨⟨k+1,by omega,by go_num,by rw [HQ.out];exact HQ0.out,hb02⟩,by simp [intOf];omega⟩
       ·have qb:(q != 0)=true:=by simp [q0]
        have HE:Hid (orJ (qI9 (qA2 c.fs)) r=q):=by
         show orJ _ _=_
         rw [HC.out,QK7 _ _ c.fn _ q0 HQ.out (by omega)]
         simp [orJ,q0]
        go_wp2
        go_ret
        exact ⟨by rw [HPO.out,HE.out];rfl,hb02⟩
      ·have hkn:k=c.fn:=by omega
       have HE:Hid (orJ (qI9 (qA2 c.fs)) r=r):=by
        show orJ _ _=_
        rw [HC.out,← hkn,HK0.out]
        simp [orJ]
       have hlt':¬ ((k:Int) < (c.fn:Int)):=by omega
       clear hkn
       go_wp2_with fail
       refine (HR.out _ hnx).mono ?_
       rintro e w2 ⟨rfl,rfl⟩
       go_wp2
       go_ret
       exact ⟨by rw [HPO.out,HE.out];rfl,hnx⟩
   ·have pb:(p != 0)=true:=by simp [p0]
    have HPO:Hid (∀ x,orJ p x=p):=fun x=>by simp [orJ,p0]
    clear p0
    go_wp2
    go_ret
    exact ⟨by rw [HPO.out];rfl,hb1⟩

structure qA7 (w:World) (a:Option Addr) (n:Nat) (cs:List qA4):Prop where
 len:cs.length=n
 row:0 < n→∃ b off,a=some ⟨b,off,none⟩∧∀ k c,cs[k]? = some c→qH6 w b (off+k * 5) c
 each:∀ (k:Nat) c,cs[k]? = some c→qE6 w c
theorem qA7.below {w w':World} {a:Option Addr} {n:Nat} {cs:List qA4} (h:qA7 w a n cs) (hb:Below w.heap.size w w'):qA7 w' a n cs :=
 ⟨h.len,fun hp=>by
  obtain ⟨b,off,e,hr⟩:=h.row hp
  exact ⟨b,off,e,fun k c q=>(hr k c q).below hb⟩,fun k c q=>(h.each k c q).below hb⟩
theorem qA7.at {w:World} {a:Option Addr} {n:Nat} {cs:List qA4} (h:qA7 w a n cs) {k:Nat} (hk:k < n):∃ b off c,a=some ⟨b,off,none⟩∧cs[k]? = some c∧qH6 w b (off+k * 5) c∧qE6 w c:=by
 obtain ⟨b,off,e,hr⟩:=h.row (by omega)
 have hx:=List.getElem?_eq_getElem (l:=cs) (i:=k) (by rw [h.len];exact hk)
 exact ⟨b,off,_,e,hx,hr k _ hx,h.each k _ hx⟩
structure qF9 (m:Nat) (cs:List qA4):Prop where
 le:∀ (k:Nat) c,cs[k]? = some c→qD3 m c
 rc:∀ (k:Nat) c,cs[k]? = some c→c.rn≤c.rc∧c.rc≤maxLen
def qT1 (c:qA4):Int:=qG6 c.e c.f c.zs (qA2 c.fs) c.cs
def qI7 (cs:List qA4):Nat→Int
 | 0=>0
 | k+1=>if qI7 cs k=0 then (match cs[k]? with
  | none=>0
  | some c=>if qT1 c=0 then (if c.f=(cs[0]?.getD default).f then 0 else 1) else qT1 c) else qI7 cs k
def qB7 (cs:List qA4):Int:=if cs.length < 1∨8 < cs.length then 2 else qI7 cs cs.length
theorem qQ2 (cs:List qA4) (k m:Nat) (d:Int) (hd:d≠0) (h:qI7 cs k=d) (hm:k≤m):qI7 cs m=d:=by
  induction m with
  | zero => obtain rfl:k=0:=by omega
            exact h
  | succ m ih =>
    by_cases e:k=m+1
    · subst e;exact h
    · have:=ih (by omega)
      rw [qI7,this,if_neg hd]
theorem qY5 {cs:List qA4} {k:Nat} {c:qA4} (hc:cs[k]? = some c) (h0:qI7 cs k=0):qI7 cs (k+1)=if qT1 c=0 then (if c.f=(cs[0]?.getD default).f then 0 else 1) else qT1 c:=by
 rw [qI7,h0,if_pos rfl,hc]
theorem qV6 {cs:List qA4} (h:qB7 cs=0):1≤cs.length∧cs.length≤8∧∀ (k:Nat) c,cs[k]? = some c→qT1 c=0∧c.f=(cs[0]?.getD default).f:=by
 unfold qB7 at h
 by_cases hl:cs.length < 1∨8 < cs.length
 ·rw [if_pos hl] at h;omega
 ·rw [if_neg hl] at h
  refine ⟨by omega,by omega,fun k c hc=>?_⟩
  have hk:k < cs.length:=by
   by_cases q:k < cs.length
   ·exact q
   ·rw [List.getElem?_eq_none (by omega)] at hc;cases hc
  have h0:qI7 cs k=0:=by
   by_cases q:qI7 cs k=0
   ·exact q
   ·have:=qQ2 cs k cs.length _ q rfl (by omega);rw [this] at h;exact absurd h q
  have h1:qI7 cs (k+1)=0:=by
   by_cases q:qI7 cs (k+1)=0
   ·exact q
   ·have:=qQ2 cs (k+1) cs.length _ q rfl (by omega);rw [this] at h;exact absurd h q
  rw [qY5 hc h0] at h1
  by_cases q:qT1 c=0
  ·rw [if_pos q] at h1
   by_cases r:c.f=(cs[0]?.getD default).f
   ·exact ⟨q,r⟩
   ·rw [if_neg r] at h1;omega
  ·rw [if_neg q] at h1;exact absurd h1 q
theorem qK8 (a:Option Addr) (n cap:Nat) (cs:List qA4) (w:World) (hn:n≤1048576) (hle:qF9 1048576 cs) (h:qA7 w a n cs) :
  Calls Tryz.prog 57 #[.slice a n cap] w fun e w'=>e = .returned (.int .i64 (qB7 cs))∧Below w.heap.size w w':=by
 have H:Hid (qA7 w a n cs):=h
 have HLE:Hid (qF9 1048576 cs):=hle
 have HZ:Hid (cs.length=n):=h.len
 have hn':(n:Int)≤1048576:=by omega
 clear h hle
 by_cases h1:n < 1
 ·have HC:Hid (qB7 cs=2):=by show qB7 cs=2;unfold qB7;rw [if_pos (.inl (by rw [HZ.out];exact h1))]
  have hn0:n=0:=by omega
  subst hn0
  rw [HC.out]
  go_enter Tryz.func57,Tryz.ntmps57
  go_wp2
  go_ret
  exact ⟨rfl,Below.refl _ _⟩
 ·by_cases h8:8 < n
  ·have HC:Hid (qB7 cs=2):=by show qB7 cs=2;unfold qB7;rw [if_pos (.inr (by rw [HZ.out];exact h8))]
   have h1':¬ ((n:Int) < 1):=by omega
   have h8':(8:Int) < (n:Int):=by omega
   rw [HC.out]
   go_enter Tryz.func57,Tryz.ntmps57
   go_wp2
   go_ret
   exact ⟨rfl,Below.refl _ _⟩
  ·have h1':¬ ((n:Int) < 1):=by omega
   have h8':¬ ((8:Int) < (n:Int)):=by omega
   have HC:Hid (qB7 cs=qI7 cs n):=by show qB7 cs=_;unfold qB7;rw [if_neg (by rw [HZ.out];omega),HZ.out]
   obtain ⟨b0,off0,c0,rfl,hc0,hat0,_⟩:=H.out.at (show 0 < n by omega)
   have HC0:Hid ((cs[0]?.getD default).f=c0.f):=by show (cs[0]?.getD default).f=_;rw [hc0];rfl
   have HAT0:Hid (qH6 w b0 off0 c0):=by have:=hat0;rw [Nat.zero_mul,Nat.add_zero] at this;exact this
   clear hc0 hat0
   rw [HC.out]
   go_enter Tryz.func57,Tryz.ntmps57
   go_wp2
   go_loopw [3] (fun i wr=>∃ k:Nat,k≤n∧i = .int .i64 (k:Int)∧qI7 cs k=0∧Below w.heap.size w wr) (fun i _=>n - (intOf i).toNat)
   case atStart=>exact ⟨0,Nat.zero_le _,rfl,rfl,Below.refl _ _⟩
   case round =>
    obtain ⟨k,hk,rfl,hz,hnx⟩:=hrel
    have HK0:Hid (qI7 cs k=0):=hz
    clear hz
    by_cases hlt:k < n
    ·obtain ⟨b,off,c,e,hc,hat,hin⟩:=H.out.at hlt
     cases e
     have HS:Hid (cs[k]? = some c):=hc
     have hlt':(k:Int) < (n:Int):=by omega
     have HA:Hid (qH6 wr b0 (off0+k * 5) c∧qE6 wr c∧qD3 1048576 c):=⟨hat.below hnx,hin.below hnx,HLE.out.le k c hc⟩
     have HN:Hid (qI7 cs (k+1)=if qT1 c=0 then (if c.f=c0.f then 0 else 1) else qT1 c):=by show qI7 cs (k+1)=_;rw [qY5 hc HK0.out,HC0.out]
     clear hc hat hin
     obtain ⟨q,hq⟩:∃ q,qT1 c=q:=⟨_,rfl⟩
     rw [hq] at HN
     have HQ:Hid (Calls Tryz.prog 87 #[.pointer (some ⟨b0,off0+k * 5,none⟩)] wr fun e w'=>e = .returned (.int .i64 q)∧Below wr.heap.size wr w'):=by rw [← hq];exact l6Fault_o b0 (off0+k * 5) c wr HA.out.2.2 HA.out.1 HA.out.2.1
     clear hq
     go_wp2_with fail
     refine HQ.out.mono ?_
     rintro e w1 ⟨rfl,hb1⟩
     have B1:Below w.heap.size w w1:=hnx.trans (hb1.mono hnx.size)
     by_cases q0:q=0
     ·have qb:(q != 0)=false:=by simp [q0]
      rw [if_pos q0] at HN
      have hA1:=HA.out.1.below hb1
      have hl1:=hA1.lt
      obtain ⟨x0,x1,_⟩:=hA1
      have hB1:=HAT0.out.below B1
      obtain ⟨y0,y1,_⟩:=hB1
      by_cases hf:c.f=c0.f
      ·have fb:(c.f != c0.f)=false:=by simp [hf]
       rw [if_pos hf] at HN
       clear q0 hf
       go_wp2
       go_quiet (fail)
       go_wp2
       exact ⟨⟨k+1,by omega,by go_num,HN.out,below_drewN B1 _⟩,by simp [intOf];omega⟩
      ·have fb:(c.f != c0.f)=true:=by simp [hf]
       rw [if_neg hf] at HN
       have HE:Hid (qI7 cs n=1):=qQ2 cs (k+1) n 1 (by omega) HN.out (by omega)
       clear q0 hf
       go_wp2
       go_quiet (fail)
       go_wp2
       go_ret
       exact ⟨by rw [HE.out];rfl,below_drewN B1 _⟩
     ·have qb:(q != 0)=true:=by simp [q0]
      rw [if_neg q0] at HN
      have HE:Hid (qI7 cs n=q):=qQ2 cs (k+1) n q q0 HN.out (by omega)
      clear q0
      go_wp2
      go_ret
      exact ⟨by rw [HE.out];rfl,B1⟩
    ·have hkn:k=n:=by omega
     have hlt':¬ ((k:Int) < (n:Int)):=by omega
     have HE:Hid (qI7 cs n=0):=by rw [← hkn];exact HK0.out
     clear hkn
     go_wp2
     go_ret
     exact ⟨by rw [HE.out];rfl,hnx⟩

end Go.Proofs.YtlhgjackapdmbaaGreatDoor
