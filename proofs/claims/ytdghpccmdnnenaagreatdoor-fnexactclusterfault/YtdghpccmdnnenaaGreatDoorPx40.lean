/- Contracts. -/
import Derived.Test.YtdghpccmdnnenaaGreatDoorPx39
namespace Go.Proofs.YtdghpccmdnnenaaGreatDoor
set_option maxRecDepth 100000
set_option maxHeartbeats 8000000
open Go.RowKit Go.Proofs.Tryz
set_option linter.unusedVariables false
set_option linter.unusedSimpArgs false
theorem Tryz.infoCf:(prog.info? 92).map (fun i=>(i.zero,i.size,i.bytes))=some (some (.agg #[iv 0,iv 0,.slice none 0 0,.slice none 0 0,.slice none 0 0]),5,88):=by kernel_rfl
abbrev qLH(w:World)(B o:Nat)(d:qA5):World:=((((w.setCell ⟨B,o,none⟩ (iv d.e)).setCell ⟨B,o+1,none⟩ (iv d.f)).setCell ⟨B,o+2,none⟩ (.slice d.ra d.rn d.rc)).setCell ⟨B,o+3,none⟩ (.slice d.fa d.fn d.fc)).setCell ⟨B,o+4,none⟩ (.slice d.ca d.cn d.cc)
theorem qGn(w:World)(B o:Nat)(d:qA5)(q:Addr)(h:∀j,j<5->q≠⟨B,o+j,none⟩):(qLH w B o d).cell? q=w.cell? q:=by
 have h0:q≠⟨B,o,none⟩:=h 0 (by omega);unfold qLH;rw[gF (h:=fun e=>h 4 (by omega) e.symm),gF (h:=fun e=>h 3 (by omega) e.symm),gF (h:=fun e=>h 2 (by omega) e.symm),gF (h:=fun e=>h 1 (by omega) e.symm),gF (h:=fun e=>h0 e.symm)]
theorem qNR(w:World)(B o:Nat)(d:qA5)(h:∀j,j<5->∃v,w.cell? ⟨B,o+j,none⟩=some v):qH4 (qLH w B o d) B o d:=by
 obtain⟨v0,h0⟩:=h 0 (by omega);obtain⟨v1,h1⟩:=h 1 (by omega);obtain⟨v2,h2⟩:=h 2 (by omega);obtain⟨v3,h3⟩:=h 3 (by omega);obtain⟨v4,h4⟩:=h 4 (by omega);rw[jS]at h0;unfold qH4 qLH;refine⟨?_,?_,?_,?_,?_⟩ <;> simp[go_sem,h0,h1,h2,h3,h4]
structure qQ5 (w0 w:World) (n:Nat) (cs ds:List qA5) (k:Nat):Prop where
 ln:ds.length=k
 sm:∀(j:Nat) c d,cs[j]?=some c->ds[j]?=some d->qH0 c d
 ca:∀(j:Nat) d,ds[j]?=some d->qH4 w w0.heap.size (j*5) d
 nw:∀(j:Nat) d,ds[j]?=some d->CfN w (w0.heap.size+1) d
 rm:(∀j,j<n*5->∃v,w.cell? ⟨w0.heap.size,j,none⟩=some v)/\∀j,w.frozen? ⟨w0.heap.size,j,none⟩=false
 lt:w0.heap.size<w.heap.size
 bl:Below w0.heap.size w0 w
theorem qQ5.below{w0 w w':World}{n:Nat}{cs ds:List qA5}{k:Nat}(h:qQ5 w0 w n cs ds k)(hb:Below w.heap.size w w'):qQ5 w0 w' n cs ds k :=
 ⟨h.ln,h.sm,fun j d e=>(h.ca j d e).below hb,fun j d e=>⟨(h.nw j d e).rd.below hb,(h.nw j d e).nw.below hb⟩,⟨fun j hj=>by obtain⟨v,e⟩:=h.rm.1 j hj;exact⟨v,(hb.cell (p:=⟨w0.heap.size,j,none⟩) h.lt).trans e⟩,fun j=>(hb.frozen (p:=⟨w0.heap.size,j,none⟩) h.lt).trans (h.rm.2 j)⟩,gD h.lt hb.size,h.bl.trans (hb.mono h.bl.size)⟩
theorem qQ5.put{w0 w:World}{n:Nat}{cs ds:List qA5}{k:Nat}(h:qQ5 w0 w n cs ds k)(hk:k<n){c d:qA5}(hc:cs[k]?=some c)(hs:qH0 c d)(hd:CfN w (w0.heap.size+1) d):qQ5 w0 (qLH w w0.heap.size (k*5) d) n cs (ds++[d]) (k+1):=by
 have hl:=h.ln
 have at1:∀(j:Nat) x,(ds++[d])[j]?=some x->(j<k/\ds[j]?=some x)\/(j=k/\x=d):=fun j x e=>by
  by_cases hj:j<k
  .rw[kY (by omega)]at e;exact .inl ⟨hj,e⟩
  .have hjk:j=k:=by
    have:=(gY.1 e).1;simp at this;omega
   subst hjk;rw[<- hl,kN (gB _),Nat.sub_self]at e;simp at e;exact .inr ⟨rfl,e.symm⟩
 have hg:w0.heap.size<w0.heap.size+1:=Nat.lt_succ_self _;have keepN:∀x,CfN w (w0.heap.size+1) x->CfN (qLH w w0.heap.size (k*5) d) (w0.heap.size+1) x:=fun x hx=>((((hx.set hg).set hg).set hg).set hg).set hg
 refine⟨by simp[hl],fun j c' x e1 e2=>?_,fun j x e=>?_,fun j x e=>?_,⟨fun j hj=>?_,fun j=>?_⟩,by simpa using h.lt,((((h.bl.setCell (gB _) _).setCell (gB _) _).setCell (gB _) _).setCell (gB _) _).setCell (gB _) _⟩
 .rcases at1 j x e2 with⟨_,q⟩ | ⟨rfl,rfl⟩
  .exact h.sm j c' x e1 q
  .rw[hc]at e1;cases e1;exact hs
 .rcases at1 j x e with⟨hj,q⟩ | ⟨rfl,rfl⟩
  .obtain⟨a0,a1,a2,a3,a4⟩:=h.ca j x q;have o:∀i,i<5->(qLH w w0.heap.size (k*5) d).cell? ⟨w0.heap.size,j*5+i,none⟩=w.cell? ⟨w0.heap.size,j*5+i,none⟩:=fun i hi=>qGn w _ _ d _ (fun i' hi' e=>by have:=jA Addr.off e;simp at this;omega)
   exact⟨(o 0 (by omega)).trans a0,(o 1 (by omega)).trans a1,(o 2 (by omega)).trans a2,(o 3 (by omega)).trans a3,(o 4 (by omega)).trans a4⟩
  .exact qNR w _ _ x (fun i hi=>h.rm.1 _ (by omega))
 .rcases at1 j x e with⟨_,q⟩ | ⟨rfl,rfl⟩
  .exact keepN x (h.nw j x q)
  .exact keepN x hd
 .obtain⟨v,e⟩:=h.rm.1 j hj
  have s1:∀(W:World) (p:Addr) (u:Value) (q:Addr),(∃v,W.cell? q=some v)->∃v,(W.setCell p u).cell? q=some v:=fun W p u q ⟨v,e⟩=>by
   by_cases hp:q=p
   .subst hp;exact⟨u,by simp[go_sem,e]⟩
   .exact⟨v,by rw[gF (h:=fun e=>hp e.symm)];exact e⟩
  exact s1 _ _ _ _ (s1 _ _ _ _ (s1 _ _ _ _ (s1 _ _ _ _ (s1 _ _ _ _ ⟨v,e⟩))))
 .unfold qLH;simp only[jE];exact h.rm.2 j
theorem qCW(a:Option Addr)(n cap:Nat)(cs:List qA5)(w:World)(hn:n<=1048576)(hle:∀(k:Nat) c,cs[k]?=some c->qE2 1048576 c)(h:qA7 w a n cs):
  CP 41 #[.slice a n cap] w fun e w'=>e=.returned (.slice (some ⟨w.heap.size,0,none⟩) n n)/\∃ds,qQ5 w w' n cs ds n:=by
 obtain⟨i0,hi,hz0,hz1,hz2⟩:=jT Tryz.infoCf;obtain⟨wm,hmk,hownm,hgrm⟩:=run_make_full (P:=prog) (w:=w) w.heap.size 30 92 i0 (.agg #[iv 0,iv 0,.slice none 0 0,.slice none 0 0,.slice none 0 0]) 5 underlying30 hi hz0 hz1 .i64 .i64 n (by rw[hz2];omega) (by unfold maxLen;omega) (gB _);have H:=hJJ h;have HLE:=hJJ hle;clear h hle
 have HM:Hid (qQ5 w wm n cs [] 0):=by
  refine⟨rfl,fun j c d _ e=>by simp at e,fun j d e=>by simp at e,fun j d e=>by simp at e,⟨fun j hj=>?_,fun j=>hownm.frozenAt j⟩,(hownm.lt _ rfl).2,(gC _ _).grown hgrm (gB _) (fun k e=>by cases e)⟩;have hl:=hownm.1;exact⟨_,(hownm.cellAt j (by omega)).trans (gA (by omega))⟩
 clear hownm hgrm;have hn':(n:Int)<=1048576:=by omega
 go_enter func41,ntmps41;go_wp2;go_loopw [4] (fun i wr=>∃(k:Nat) (ds:List qA5),k<=n/\i=iv (k:Int)/\Hid (qQ5 w wr n cs ds k)) (fun i _=>n-(intOf i).toNat)
 case atStart=>exact⟨0,[],gH _,rfl,HM⟩
 case round =>
  obtain⟨k,ds,hk,rfl,HK⟩:=hrel;by_cases hlt:k<n
  .have hlt':(k:Int)<(n:Int):=by omega
   obtain⟨b,off,c,rfl,hs,hr,hci⟩:=H.out.at hlt
   have HS:=hJJ hs;have hb:b<wr.heap.size:=gD hr.lt HK.out.bl.size;have HCI:Hid (qF4 wr c):=hci.below HK.out.bl;obtain⟨c0,c1,c2,c3,c4⟩:=hr.below HK.out.bl;have hx:=HLE.out k c hs;clear hs hr hci;go_wp2_with fail
   refine (qFQ c _ hx HCI.out).mono ?_;rintro e w1 ⟨d,rfl,hsm,hdi,hdn,hb1⟩;have K1:=HK.out.below hb1;have K2:Hid (qQ5 w (qLH w1 w.heap.size (k*5) d) n cs (ds++[d]) (k+1)):=K1.put hlt HS.out hsm ⟨hdi,hdn.low (by have:=HK.out.lt;omega)⟩;have hl1:=K1.lt;obtain⟨u0,e0⟩:=K1.rm.1 (k*5) (by omega);obtain⟨u1,e1⟩:=K1.rm.1 (k*5+1) (by omega);obtain⟨u2,e2⟩:=K1.rm.1 (k*5+2) (by omega);obtain⟨u3,e3⟩:=K1.rm.1 (k*5+3) (by omega);obtain⟨u4,e4⟩:=K1.rm.1 (k*5+4) (by omega);have f0:=K1.rm.2 (k*5);have f1:=K1.rm.2 (k*5+1);have f2:=K1.rm.2 (k*5+2);have f3:=K1.rm.2 (k*5+3);have f4:=K1.rm.2 (k*5+4);clear K1 hsm hdi hdn hb1 c0 c1 c2 c3 c4 HK;go_wp2_with fail
   exact⟨⟨k+1,ds++[d],by omega,by go_num,K2⟩,by simp[intOf];omega⟩
  .have hkn:k=n:=by omega
   subst hkn;go_wp2_with fail
   go_ret;exact⟨rfl,ds,HK.out⟩
theorem QT9(a b:Option Addr)(n ca cb:Nat)(cs ds:List qA5)(w:World)(hn:n<=1048576)(hle:∀(k:Nat) c,cs[k]?=some c->qE2 1048576 c)(hs:∀(j:Nat) c d,cs[j]?=some c->ds[j]?=some d->qH0 c d)(h:qA7 w a n cs)(h':qA7 w b n ds):
  CP 49 #[.slice a n ca,.slice b n cb] w fun e w'=>e=.returned (.bool true)/\Below w.heap.size w w':=by
 have HA:=hJJ h;have HB:=hJJ h';have HLE:=hJJ hle;have HSM:=hJJ hs;clear h h' hle hs;have hn':(n:Int)<=1048576:=by omega
 go_enter func49,ntmps49;go_wp2;go_loopw [5] (fun i wr=>∃k:Nat,k<=n/\i=iv (k:Int)/\Below w.heap.size w wr) (fun i _=>n-(intOf i).toNat)
 case atStart=>exact⟨0,gH _,rfl,gC _ _⟩
 case round =>
  obtain⟨k,hk,rfl,hnx⟩:=hrel;by_cases hlt:k<n
  .obtain⟨b1,o1,s,e1,hs1,hr1,hi1⟩:=HA.out.at hlt
   obtain⟨b2,o2,s2,e2,hs2,hr2,hi2⟩:=HB.out.at hlt
   subst e1 e2;have hb1:b1<wr.heap.size:=gD hr1.lt hnx.size;have hb2:b2<wr.heap.size:=gD hr2.lt hnx.size;obtain⟨h0,h1,h2,h3,h4⟩:=hr1.below hnx;obtain⟨g0,g1,g2,g3,g4⟩:=hr2.below hnx
   have HEQ:Hid (∀W,Below wr.heap.size wr W->CP 98 #[.agg #[iv s.e,iv s.f,.slice s.ra s.rn s.rc,.slice s.fa s.fn s.fc,.slice s.ca s.cn s.cc],.agg #[iv s2.e,iv s2.f,.slice s2.ra s2.rn s2.rc,.slice s2.fa s2.fn s2.fc,.slice s2.ca s2.cn s2.cc]] W fun e w'=>e=.returned (.bool true)/\Below W.heap.size W w'):=by
    have q1:=HLE.out k s hs1;have q2:=HSM.out k s s2 hs1 hs2;exact fun W hW=>qAW s s2 W q1 q2 ((hi1.below hnx).below hW) ((hi2.below hnx).below hW)
   have hlt':(k:Int)<(n:Int):=by omega
   clear hr1 hr2 hi1 hi2 hs1 hs2;go_wp2
   go_region_held3 (fun w'=>(∀b o,b<wr.heap.size->w'.cell? ⟨b,o,none⟩=wr.cell? ⟨b,o,none⟩)/\Below wr.heap.size wr w') (first | exact hS | exact qA8 _)
    (first | (go_at_call 98;refine (HEQ.out _ (by first | exact hHeld.2 | exact (gC _ _).drew)).mono ?_;rintro e w' ⟨rfl,hbz⟩;have hS:=qA0 (by assumption) hbz))
   go_wp2;exact⟨⟨k+1,by omega,by go_num,hnx.trans (hS.2.mono hnx.size)⟩,by simp[intOf];omega⟩
  .have hkn:k=n:=by omega
   subst hkn;go_wp2;go_ret;exact⟨rfl,hnx⟩
