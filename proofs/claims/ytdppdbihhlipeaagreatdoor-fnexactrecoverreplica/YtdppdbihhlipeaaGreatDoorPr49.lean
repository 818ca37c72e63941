/- Contracts. -/
import Derived.Test.YtdppdbihhlipeaaGreatDoorPr46
import Derived.Test.YtdppdbihhlipeaaGreatDoorPr48
namespace Go.Proofs.YtdppdbihhlipeaaGreatDoor
set_option maxRecDepth 100000
set_option maxHeartbeats 8000000
open Go.RowKit
set_option linter.unusedVariables false
set_option linter.unusedSimpArgs false

structure RL (w:World) (i:Int) (sa:Option Addr) (sc:Nat) (la:Option Addr) (lc:Nat) (ss:List StI) (ls:List LkI) (ra:Option Addr) (rx:Nat) (xs:List StI) (W:World):Prop where
 rs:qH0 w.heap.size [.int .i64 0,.int .i64 0,.int .i64 0,.slice none 0 0,.slice none 0 0] W
 ab:W.heap[w.heap.size+1]? = some (.cells #[.int .i64 i,.int .i64 0,.slice sa ss.length sc,.slice la ls.length lc] 36 (0,0))
 so:qB2 W (w.heap.size+2) (.slice sa ss.length sc) ss
 lo:qA7 W (w.heap.size+2) (.slice la ls.length lc) ls
 sd:qB2 W (w.heap.size+2) (.slice ra xs.length rx) xs
 bl:Below w.heap.size w W
theorem RL.lt {w:World} {i:Int} {sa:Option Addr} {sc:Nat} {la:Option Addr} {lc:Nat} {ss:List StI} {ls:List LkI} {ra:Option Addr} {rx:Nat} {xs:List StI} {W:World} (h:RL w i sa sc la lc ss ls ra rx xs W):w.heap.size+1 < W.heap.size:=(Array.getElem?_eq_some_iff.1 h.ab).1
theorem RL.below {w:World} {i:Int} {sa:Option Addr} {sc:Nat} {la:Option Addr} {lc:Nat} {ss:List StI} {ls:List LkI} {ra:Option Addr} {rx:Nat} {xs:List StI} {W W':World} (h:RL w i sa sc la lc ss ls ra rx xs W) (hb:Below W.heap.size W W'):RL w i sa sc la lc ss ls ra rx xs W' :=
 ⟨qH0.below h.rs (Nat.lt_of_succ_lt h.lt) hb,(hb.block _ h.lt).trans h.ab,h.so.below hb,h.lo.below hb,h.sd.below hb,h.bl.trans (hb.mono h.bl.size)⟩
theorem RL.other {w:World} {i:Int} {sa:Option Addr} {sc:Nat} {la:Option Addr} {lc:Nat} {ss:List StI} {ls:List LkI} {ra:Option Addr} {rx:Nat} {xs:List StI} {W:World} (h:RL w i sa sc la lc ss ls ra rx xs W) {p:Addr} (h0:w.heap.size+1 < p.block) (h1:∀ g,(Value.slice sa ss.length sc).ownBlock=some g->g≠p.block) (h2:∀ g,(Value.slice la ls.length lc).ownBlock=some g->g≠p.block) (h3:∀ g,(Value.slice ra xs.length rx).ownBlock=some g->g≠p.block) (v:Value):RL w i sa sc la lc ss ls ra rx xs (W.setCell p v) :=
 ⟨h.rs.other (by omega) v,(zS (by omega)).trans h.ab,qA0 h.so (fun g e=>zS (h1 g e)),qA0 h.lo (fun g e=>zS (h2 g e)),qA0 h.sd (fun g e=>zS (h3 g e)),h.bl.setCell (by omega) v⟩
theorem RL.rows {w:World} {i:Int} {sa:Option Addr} {sc:Nat} {la:Option Addr} {lc:Nat} {ss:List StI} {ls:List LkI} {ra:Option Addr} {rx:Nat} {xs:List StI} {W:World} (h:RL w i sa sc la lc ss ls ra rx xs W):(∀ g,(Value.slice sa ss.length sc).ownBlock=some g->g < W.heap.size)/\(∀ g,(Value.slice la ls.length lc).ownBlock=some g->g < W.heap.size)/\(∀ g,(Value.slice ra xs.length rx).ownBlock=some g->g < W.heap.size) :=
 ⟨fun g e=>by obtain ⟨cur,hc,_⟩:=qC5 h.so e;exact (Array.getElem?_eq_some_iff.1 hc).1,fun g e=>by obtain ⟨cur,hc,_⟩:=qC6 h.lo e;exact (Array.getElem?_eq_some_iff.1 hc).1,fun g e=>by obtain ⟨cur,hc,_⟩:=qC5 h.sd e;exact (Array.getElem?_eq_some_iff.1 hc).1⟩
theorem RL.rep {w:World} {i:Int} {sa:Option Addr} {sc:Nat} {la:Option Addr} {lc:Nat} {ss:List StI} {ls:List LkI} {ra:Option Addr} {rx:Nat} {xs:List StI} {W:World} (h:RL w i sa sc la lc ss ls ra rx xs W):qG1 W (plR i sa sc la lc ss ls)/\qJ7 (plR i sa sc la lc ss ls)/\(∀ p,la=some p->∃ b0 o0,p=⟨b0,o0,none⟩/\b0 < W.heap.size)/\qF8 W (w.heap.size+1) (plR i sa sc la lc ss ls):=by
 refine ⟨⟨StV.isIn rfl h.so.view,LkV.isIn rfl h.lo.view⟩,⟨fun e=>?_,fun e=>?_⟩,fun p e=>?_,⟨qA1 h.ab 0,qA1 h.ab 1,qA1 h.ab 2,qA1 h.ab 3⟩⟩
 ·rcases h.so.form with ⟨q,_⟩ | ⟨g,c,q,_⟩
  ·injection q with q1 q2 q3
   exact ⟨q2,q3⟩
  ·have : sa=some ⟨g,0,none⟩:=by injection q
   rw [show sa=none from e] at this;cases this
 ·rcases h.lo.form with ⟨q,_⟩ | ⟨g,c,q,_⟩
  ·injection q with q1 q2 q3
   exact ⟨q2,q3⟩
  ·have : la=some ⟨g,0,none⟩:=by injection q
   rw [show la=none from e] at this;cases this
 ·rcases h.lo.form with ⟨q,_⟩ | ⟨g,c,q,_,hg,_⟩
  ·have : la=none:=by injection q
   rw [e] at this;cases this
  ·have : la=some ⟨g,0,none⟩:=by injection q
   rw [e] at this;cases this;exact ⟨g,0,rfl,hg⟩
theorem RL.renew {w:World} {i:Int} {sa:Option Addr} {sc:Nat} {la:Option Addr} {lc:Nat} {ss:List StI} {ls:List LkI} {ra:Option Addr} {rx:Nat} {xs:List StI} {W:World} (h:RL w i sa sc la lc ss ls ra rx xs W) {sa':Option Addr} {sc':Nat} {la':Option Addr} {lc':Nat} {S:List StI} {L:List LkI} (ho1:qB2 W (w.heap.size+2) (.slice sa' S.length sc') S) (ho2:qA7 W (w.heap.size+2) (.slice la' L.length lc') L) :
  RL w i sa' sc' la' lc' S L ra rx xs ((((W.setCell ⟨w.heap.size+1,0,none⟩ (.int .i64 i)).setCell ⟨w.heap.size+1,1,none⟩ (.int .i64 0)).setCell ⟨w.heap.size+1,2,none⟩ (.slice sa' S.length sc')).setCell ⟨w.heap.size+1,3,none⟩ (.slice la' L.length lc')):=by
 have ne:∀ g,w.heap.size+2<=g->g≠w.heap.size+1:=fun g hg=>by omega
 have nb:(⟨w.heap.size+1,0,none⟩:Addr).block≠w.heap.size:=by show w.heap.size+1≠w.heap.size;omega
 refine ⟨(((h.rs.other nb _).other (p:=⟨w.heap.size+1,1,none⟩) nb _).other (p:=⟨w.heap.size+1,2,none⟩) nb _).other (p:=⟨w.heap.size+1,3,none⟩) nb _,qL1 (qL1 (qL1 (qL1 h.ab))),qA0 ho1 (fun g e=>?_),qA0 ho2 (fun g e=>?_),qA0 h.sd (fun g e=>?_),(((h.bl.setCell (Nat.le_succ _) _).setCell (Nat.le_succ _) _).setCell (Nat.le_succ _) _).setCell (Nat.le_succ _) _⟩
 ·obtain ⟨cur,hcc,hgg⟩:=qC5 ho1 e;rw [zS (ne g hgg),zS (ne g hgg),zS (ne g hgg),zS (ne g hgg)]
 ·obtain ⟨cur,hcc,hgg⟩:=qC6 ho2 e;rw [zS (ne g hgg),zS (ne g hgg),zS (ne g hgg),zS (ne g hgg)]
 ·obtain ⟨cur,hcc,hgg⟩:=qC5 h.sd e;rw [zS (ne g hgg),zS (ne g hgg),zS (ne g hgg),zS (ne g hgg)]
def RC (w:World) (i:Int) (sa:Option Addr) (sc:Nat) (la:Option Addr) (lc:Nat) (ss:List StI) (ls:List LkI) (ra:Option Addr) (rx:Nat) (xs:List StI) (e:Int) (S:List StI) (L:List LkI) (s:Value) (W:World):Prop:=∃ q:Nat,s = .pointer (some ⟨q,0,none⟩)/\RL w i sa sc la lc ss ls ra rx xs W/\q < W.heap.size/\w.heap.size+1 < q/\∃ j1 sa' n1 sc' la' n2 lc',qV9 q [.int .i64 e,.int .i64 j1,.int .i64 0,.slice sa' n1 sc',.slice la' n2 lc'] W/\(e≠0\/(j1=i/\n1=S.length/\n2=L.length/\qB2 W (w.heap.size+2) (.slice sa' n1 sc') S/\qA7 W (w.heap.size+2) (.slice la' n2 lc') L))
theorem QV3 (E:qH1) (i:Int) (a:Option Addr) (m cap:Nat) (cs:List qA4) (b:Option Addr) (n cap':Nat) (zs:List Int) (w:World) (hc:qA6 w a m cs) (hcl:qG0 1048576 cs) (hm:m<=1048576) (hEC:qC4 cs=0->qN7 E cs) (hn:n<=1048576) (hnc:n<=cap') (hcm:cap'<=maxLen) (hz:qC9 w b n zs) :
  QZ3 18 E i a m cap cs b n cap' zs w:=by
 obtain ⟨V,hV⟩:∃ V,V=w.alloc (.cells #[.int .i64 0,.int .i64 0,.int .i64 0,.slice none 0 0,.slice none 0 0] 48):=⟨_,rfl⟩;have BV:Hid (Below w.heap.size w V):=by show Below _ _ _;rw [hV];exact zN
 have RV:Hid (qH0 w.heap.size [.int .i64 0,.int .i64 0,.int .i64 0,.slice none 0 0,.slice none 0 0] V):=by show qH0 _ _ _;rw [hV];exact qG7 w _ _
 have hVs:V.heap.size=w.heap.size+1:=by rw [hV];simp
 have HZL:Hid (zs.length=n):=hz.1;have HZI:=qB9 hz;obtain ⟨res,hres⟩:∃ c,qJ3 E cs i zs=c:=⟨_,rfl⟩;obtain ⟨N,hN⟩:∃ c,qGG E zs=c:=⟨_,rfl⟩;obtain ⟨XS,hXS⟩:∃ c,qFX E zs=c:=⟨_,rfl⟩;obtain ⟨XL,hXL⟩:∃ c,qFY E zs=c:=⟨_,rfl⟩;obtain ⟨kc,hk⟩:∃ c,qT9 E cs (r0I i)=c:=⟨_,rfl⟩;have HRES:Hid (res=if 240 < n then 2 else kc):=by show _=_;rw [<- hres,<- hk,<- HZL.out];rfl
 have HOF:Hid (∀ (j:Nat) ls,j<=(rdL zs).length->qD2 E (rdL zs) j=some ls->(j=(rdL zs).length\/qD2 E (rdL zs) (j+1)=none)->N=j/\XS=(rdL zs).take j/\XL=ls):=fun j ls h1 h2 h3=>by
  have:=qJh h1 h2 h3;rw [hN,hXS,hXL] at this;exact this
 have HLF:Hid (∀ (g:Nat) (W:World),Below w.heap.size w W->qF8 W g (r0I i)->Calls Tryz.prog 29 #[.pointer (some ⟨g,0,none⟩),.slice a m cap] W fun d w'=>d = .returned (.int .i64 kc)/\Below W.heap.size W w'):=fun g W hb hx=>by
  rw [<- hk];exact qGs E g (r0I i) a m cap cs W hx (qLm W i) ⟨Nat.zero_le _,Nat.zero_le _⟩ (hc.below hb) hcl hm hEC
 have HCF:Hid (kc=0->qN7 E cs/\0 < m/\m<=8):=fun q=>by
  have h0:=(qJf (hk.trans q)).1;obtain ⟨h1,h2, -⟩:=qT4 h0;rw [hc.len] at h1 h2;exact ⟨hEC h0,by omega,h2⟩
 have HCI:Hid (∀ W,Below w.heap.size w W->qA6 W a m cs):=fun W hb=>hc.below hb
 unfold QZ3;rw [hres,hN,hXS,hXL];have HVS:=qB9 hVs;have hVl:w.heap.size < V.heap.size:=by omega
 clear hc hcl hEC hz hres hN hXS hXL hk hm hVs;by_cases h240:240 < n
 ·have HE:Hid (res=2):=by show _=_;rw [HRES.out,if_pos h240]
  have HLG:=qB9 (qAb b n cap' true V hn (decide_eq_true h240));have z0:=RV.out.1 0 _ rfl;have z1:=RV.out.1 1 _ rfl;have z2:=RV.out.1 2 _ rfl;have z3:=RV.out.1 3 _ rfl;have z4:=RV.out.1 4 _ rfl;have f0:=RV.out.2 0;have f1:=RV.out.2 1;have f2:=RV.out.2 2;have f3:=RV.out.2 3;have f4:=RV.out.2 4;clear h240;go_enter Tryz.func18,Tryz.ntmps18;go_upto_region 1 with fail
  rw [<- hV];clear hV;go_wp2_with fail
  refine HLG.out.mono ?_;rintro d w' ⟨rfl,rfl⟩;go_wp2_with fail
  refine bodyPost_ret (v:=.agg #[.int .i64 2,.int .i64 0,.int .i64 0,.slice none 0 0,.slice none 0 0]) (by simp [results,Tryz.results18,go_sem,z0,z1,z2,z3,z4,hVl]) rfl ?_;exact ⟨((((BV.out.setCell (Nat.le_refl _) _).setCell (Nat.le_refl _) _).setCell (Nat.le_refl _) _).setCell (Nat.le_refl _) _).setCell (Nat.le_refl _) _,fun _=>by rw [HE.out],fun q=>by rw [HE.out] at q;exact absurd q (by decide)⟩
 have HR2:Hid (res=kc):=by show _=_;rw [HRES.out,if_neg h240]
 have hn240:n<=240:=by omega
 have HLG:=qB9 (qAb b n cap' false V hn (decide_eq_false h240));clear h240 HRES;go_enter Tryz.func18,Tryz.ntmps18;go_upto_region 1 with fail
 rw [<- hV];clear hV;go_wp2_with fail
 refine HLG.out.mono ?_;rintro d w' ⟨rfl,rfl⟩;obtain ⟨V2,hV2⟩:∃ W,W=V.alloc (.cells #[.int .i64 i,.int .i64 0,.slice none 0 0,.slice none 0 0] 36):=⟨_,rfl⟩;have BV2:Below V.heap.size V V2:=by rw [hV2];exact zN
 have hab:V2.heap[w.heap.size+1]? = some (.cells #[.int .i64 i,.int .i64 0,.slice none 0 0,.slice none 0 0] 36 (0,0)):=by rw [hV2,<- HVS.out];exact QJ4 V _
 have B2:=qB9 (BV.out.trans (BV2.mono BV.out.size));have R2:=qB9 (RV.out.below hVl BV2);have hz2:V2.heap.size=w.heap.size+2:=by rw [hV2];simp;exact HVS.out
 have HZ2:=qB9 hz2;have HAB:=qB9 hab;have HF2:=qB9 (HLF.out (w.heap.size+1) V2 B2.out ⟨qA1 hab 0,qA1 hab 1,qA1 hab 2,qA1 hab 3⟩);have hVS2:V.heap.size=w.heap.size+1:=HVS.out;clear BV2 hab RV HLF HLG BV hz2;go_upto_region 4 with fail
 rw [<- hV2];clear hV2;try rw [hVS2]
 clear hVS2 hVl HVS;go_wp2_with fail
 refine HF2.out.mono ?_;rintro d w3 ⟨rfl,hb3⟩;have hl3:w.heap.size+2<=w3.heap.size:=by have:=hb3.size;have:=HZ2.out;omega
 have hl3':w.heap.size < V2.heap.size:=by have:=HZ2.out;omega
 have hl3'':w.heap.size+1 < V2.heap.size:=by have:=HZ2.out;omega
 have B3:=qB9 (B2.out.trans (hb3.mono B2.out.size));have R3:=qB9 (R2.out.below hl3' hb3);have AB3:=qB9 ((hb3.block _ hl3'').trans HAB.out);clear hb3 HF2 R2 B2 HAB hl3' hl3'' HZ2;by_cases hk:kc=0
 ·obtain ⟨hEC,hm0,hm8⟩:=HCF.out hk;have HR0:Hid (res=0):=by show _=_;rw [HR2.out,hk]
  have HEC:=qB9 hEC;subst hk;have HRD:=qB9 (qHB b n cap' zs w3 hn240 hnc hcm (HZI.out.below B3.out));clear hEC HCF HR2;go_wp2_with fail
  refine HRD.out.mono ?_;rintro d w4 ⟨ra,rx,rfl,hown,hb4⟩;obtain ⟨xs,hxs⟩:∃ xs,rdL zs=xs:=⟨_,rfl⟩;rw [hxs] at hown HOF ⊢
  have hnx:xs.length<=240:=by rw [<- hxs];have:=QC9 (zs:=zs);have:=HZL.out;omega
  have hnx':(xs.length:Int)<=240:=by omega
  have P0:Hid (RL w i none 0 none 0 [] [] ra rx xs w4):=⟨qH0.below R3.out (by omega) hb4,(hb4.block _ (by omega)).trans AB3.out,World.ownsRow_nil _ _ _ _,World.ownsRow_nil _ _ _ _,qC0 hown hl3,B3.out.trans (hb4.mono B3.out.size)⟩;clear hown hb4 hxs HRD R3 B3 AB3 hl3 HZI HZL;go_wp2_with fail
  go_loopw [10] (fun j wr=>∃ (k:Nat) (ls:List LkI) (sa:Option Addr) (sc:Nat) (la:Option Addr) (lc:Nat),k<=xs.length/\j = .int .i64 (k:Int)/\Hid (qD2 E xs k=some ls)/\Hid (RL w i sa sc la lc (xs.take k) ls ra rx xs wr)) (fun j _=>xs.length - (intOf j).toNat)
  case atStart=>exact ⟨0,[],none,0,none,0,Nat.zero_le _,rfl,rfl,P0⟩
  case round =>
   clear P0;obtain ⟨k,ls,sa,sc,la,lc,hk,rfl,HPL,P4⟩:=hrel;have HTK:Hid ((xs.take k).length=k):=by show _=_;rw [List.length_take];omega
   by_cases hlt:k < xs.length
   ·have hlt':(k:Int) < (xs.length:Int):=by omega
    have hk0:(0:Int)<=(k:Int):=by omega
    obtain ⟨rb,ro,x,ea,hx,hat,hbl⟩:=((qB2.view P4.out.sd).isIn rfl).at hlt
    subst ea;have HXK:Hid (xs[k]? = some x):=hx;obtain ⟨ss,hss⟩:∃ ss,xs.take k=ss:=⟨_,rfl⟩;have HSS:Hid (xs.take k=ss):=hss;have hRp:RpS E ss ls:=by rw [<- hss];exact QL6 k ls (by omega) HPL.out
    rw [hss] at P4;obtain ⟨t,ht⟩:∃ t,qD9 ss x=t:=⟨_,rfl⟩;have HT:Hid (qD9 ss x=t):=ht;have HRP:Hid (RpS E ss ls):=hRp;obtain ⟨e,he⟩:∃ e,qE9 E ss ls x=e:=⟨_,rfl⟩;have HE:Hid (qE9 E ss ls x=e):=he;obtain ⟨S,hS0⟩:∃ S,qO5 ss x=S:=⟨_,rfl⟩;have HS0:Hid (qO5 ss x=S):=hS0;obtain ⟨L,hL0⟩:∃ L,qK5 E ss ls x=L:=⟨_,rfl⟩;have HL0:Hid (qK5 E ss ls x=L):=hL0
    have HSD:Hid (∀ W,RL w i sa sc la lc ss ls (some ⟨rb,ro,none⟩) rx xs W->Calls Tryz.prog 47 #[.pointer (some ⟨w.heap.size+1,0,none⟩),.agg #[.int .i64 x.k,.int .i64 x.e,.int .i64 x.f,.int .i64 x.s,.int .i64 x.n]] W fun d w'=>d = .returned (.bool t)/\Below W.heap.size W w'):=fun W q=>by
     rw [<- ht];exact qK3 _ (plR i sa sc la lc ss ls) x W q.rep.2.2.2 q.rep.1.said (by show ss.length<=1048576;have:=HRP.out.len;omega)
    have HEN:Hid (∀ W,RL w i sa sc la lc ss ls (some ⟨rb,ro,none⟩) rx xs W->Calls Tryz.prog 46 #[.agg #[.int .i64 i,.int .i64 0,.slice sa ss.length sc,.slice la ls.length lc],.slice a m cap,.agg #[.int .i64 x.k,.int .i64 x.e,.int .i64 x.f,.int .i64 x.s,.int .i64 x.n]] W fun d w'=>∃ (j1:Int) (sa':Option Addr) (n1 sc':Nat) (la':Option Addr) (n2 lc':Nat),d = .returned (.agg #[.int .i64 e,.int .i64 j1,.int .i64 0,.slice sa' n1 sc',.slice la' n2 lc'])/\Below W.heap.size W w'/\(e≠0\/(j1=i/\n1=S.length/\n2=L.length/\qB2 w' W.heap.size (.slice sa' n1 sc') S/\qA7 w' W.heap.size (.slice la' n2 lc') L))):=fun W q=>by
     have c:=QG9 E (plR i sa sc la lc ss ls) a m cap cs x W q.rep.1 q.rep.2.1 q.rep.2.2.1 (HCI.out _ q.bl) HEC.out hm0 hm8 HRP.out;have eC':qE9 E (plR i sa sc la lc ss ls).ss (plR i sa sc la lc ss ls).ls x=e:=he;have eS':qO5 (plR i sa sc la lc ss ls).ss x=S:=hS0;have eL':qK5 E (plR i sa sc la lc ss ls).ss (plR i sa sc la lc ss ls).ls x=L:=hL0;rw [eC',eS',eL'] at c;refine Calls.mono c ?_;rintro d w' ⟨g1,g2,g3⟩;by_cases e0:e=0
     ·obtain ⟨sa',sc',la',lc',gd,go1,go2⟩:=g3 e0;exact ⟨i,sa',S.length,sc',la',L.length,lc',by rw [gd,e0];rfl,g1,.inr ⟨rfl,rfl,rfl,go1,go2⟩⟩
     ·exact ⟨0,none,0,0,none,0,0,g2 e0,g1,.inl e0⟩
    have HTB:Hid (qD2 E xs (k+1)=none->N=ss.length/\XS=ss/\XL=ls):=fun q=>by
     have z:=HOF.out k ls hk HPL.out (.inr q);rw [HSS.out] at z;have hl:ss.length=k:=by rw [<- HSS.out];exact HTK.out
     rw [hl];exact z
    clear he hS0 hL0 hss ht hRp hx;obtain ⟨w5,hw5⟩:∃ U,U=wr:=⟨_,rfl⟩;rw [<- hw5] at P4 hat hbl ⊢
    clear hw5;have P5:=P4;go_upto_region 11 with fail
    obtain ⟨h0,h1,h2,h3,h4⟩:=hat;have hbl5:rb < w5.heap.size:=hbl;have o0:=qA1 P5.out.ab 0;have o1:=qA1 P5.out.ab 1;have o2:=qA1 P5.out.ab 2;have o3:=qA1 P5.out.ab 3;simp only [List.getElem?_toArray,List.getElem?_cons_zero,List.getElem?_cons_succ] at o0 o1 o2 o3;have hol:=P5.out.lt;clear P4;go_cut [11] from 31 to 37 (fun s W=>RC w i sa sc la lc ss ls (some ⟨rb,ro,none⟩) rx xs e S L s W)
    case first =>
     refine wp_region_held_drew (S:=fun w'=>(∀ b o,b < w5.heap.size->w'.cell? ⟨b,o,none⟩=w5.cell? ⟨b,o,none⟩)/\Below w5.heap.size w5 w') (by kernel_rfl) (qC1 _) (fun hHeld=>?_);refine Zk.go [0,1,2,3,4,5] ?_
     iterate 6
      refine Zk.st (v:=?_) rfl ?_ ?_;rotate_left 1
      ·intro w hSw;(try dsimp only at hSw);go_simp;try (with_reducible rfl)
      try simp only [Act.put,zA,zB,zC,zD,zE,zF]
     refine Zk.fin ?_;refine wpAnyH_ready (rs:=[6,7]) (by kernel_rfl) (by simp) ?_;refine AllReadyH.cons rfl (fun K hK=>?_) (AllReadyH.cons rfl (fun K hK=>?_) AllReadyH.nil)
     ·go_simp;refine (HEN.out _ (P5.out.below hHeld.2)).mono ?_;rintro d w2 ⟨j1,sa',n1,sc',la',n2,lc',rfl,hb2,hR⟩;have hS:=qA9 hHeld hb2;have hs2:=hb2.size;have hs2':w5.heap.size<=w2.heap.size:=hs2;have hS2:=qD7 hS.2;refine hK.out _ _ hS (fun hHeld=>?_);clear hK K;try simp only [Act.put,zA,zB,zC,zD,zE,zF]
      refine Zk.rd (i:=7) rfl (fun K hK=>?_);go_simp;have hS:=kpN (hHeld.2.alloc hHeld.2.size (.cells #[.int .i64 0,.int .i64 0,.int .i64 0,.slice none 0 0,.slice none 0 0] 48));refine hK.out _ _ hS (fun hHeld=>?_);clear hK K;try simp only [Act.put,zA,zB,zC,zD,zE,zF]
      refine Zk.rd (i:=8) rfl (fun K hK=>?_);go_simp;have hS:=kpN (hS2.out.alloc hS2.out.size (.cells #[.int .i64 e,.int .i64 j1,.int .i64 0,.slice sa' n1 sc',.slice la' n2 lc'] 48));refine hK.out _ _ hS (fun hHeld=>?_);clear hK K;try simp only [Act.put,zA,zB,zC,zD,zE,zF]
      refine wpAnyH_done (by kernel_rfl) ?_ _;go_wp2_with fail
      go_meet
      have ha1:w.heap.size+1 < w2.heap.size:=by have:=P5.out.lt;omega
      have AA:Below w2.heap.size w2 (w2.alloc (.cells #[.int .i64 e,.int .i64 j1,.int .i64 0,.slice sa' n1 sc',.slice la' n2 lc'] 48)):=zN;have hPa:RL w i sa sc la lc ss ls (some ⟨rb,ro,none⟩) rx xs (w2.alloc (.cells #[.int .i64 e,.int .i64 j1,.int .i64 0,.slice sa' n1 sc',.slice la' n2 lc'] 48)):=(P5.out.below hS2.out).below AA;have hB:qV9 w2.heap.size [.int .i64 e,.int .i64 j1,.int .i64 0,.slice sa' n1 sc',.slice la' n2 lc'] (w2.alloc (.cells #[.int .i64 e,.int .i64 j1,.int .i64 0,.slice sa' n1 sc',.slice la' n2 lc'] 48)):=(qE6 w2 _ _).out;have hlt2:=P5.out.lt;refine ⟨w2.heap.size,rfl,hPa,by simp,ha1,j1,sa',n1,sc',la',n2,lc',hB,hR.imp id (fun q=>⟨q.1,q.2.1,q.2.2.1,(qC0 q.2.2.2.1 (by show w.heap.size+2<=w5.heap.size;omega)).below AA,(qB0 q.2.2.2.2 (by show w.heap.size+2<=w5.heap.size;omega)).below AA⟩)⟩
     ·go_simp;have hS:=kpN (hHeld.2.alloc hHeld.2.size (.cells #[.int .i64 0,.int .i64 0,.int .i64 0,.slice none 0 0,.slice none 0 0] 48));refine hK.out _ _ hS (fun hHeld=>?_);clear hK K;try simp only [Act.put,zA,zB,zC,zD,zE,zF]
      refine Zk.rd (i:=6) rfl (fun K hK=>?_);go_simp;refine (HEN.out _ (P5.out.below hHeld.2)).mono ?_;rintro d w2 ⟨j1,sa',n1,sc',la',n2,lc',rfl,hb2,hR⟩;have hS:=qA9 hHeld hb2;have hs2:=hb2.size;have hs2':w5.heap.size+1<=w2.heap.size:=by simpa using hs2
      have XQ:qH0 w5.heap.size [.int .i64 0,.int .i64 0,.int .i64 0,.slice none 0 0,.slice none 0 0] w2:=qH0.below (qG7 w5.drew _ _) (by simp) hb2;have hS2:=qD7 hS.2;have z0:=XQ.1 0 _ rfl;have z1:=XQ.1 1 _ rfl;have z2:=XQ.1 2 _ rfl;have z3:=XQ.1 3 _ rfl;have z4:=XQ.1 4 _ rfl;have f0:=XQ.2 0;have f1:=XQ.2 1;have f2:=XQ.2 2;have f3:=XQ.2 3;have f4:=XQ.2 4;have hql:w5.heap.size < w2.heap.size:=hs2';refine hK.out _ _ hS (fun hHeld=>?_);clear hK K;try simp only [Act.put,zA,zB,zC,zD,zE,zF]
      refine Zk.rd (i:=8) rfl (fun K hK=>?_);go_simp;have hS:=kpN (((((hHeld.2.setCell (p:=⟨w5.heap.size,0,none⟩) (Nat.le_refl _) (.int .i64 e)).setCell (p:=⟨w5.heap.size,1,none⟩) (Nat.le_refl _) (.int .i64 j1)).setCell (p:=⟨w5.heap.size,2,none⟩) (Nat.le_refl _) (.int .i64 0)).setCell (p:=⟨w5.heap.size,3,none⟩) (Nat.le_refl _) (.slice sa' n1 sc')).setCell (p:=⟨w5.heap.size,4,none⟩) (Nat.le_refl _) (.slice la' n2 lc'));refine hK.out _ _ hS (fun hHeld=>?_);clear hK K;try simp only [Act.put,zA,zB,zC,zD,zE,zF]
      refine wpAnyH_done (by kernel_rfl) ?_ _;go_wp2_with fail
      go_meet
      have ha1:w.heap.size+1 < w5.heap.size:=by have:=P5.out.lt;omega
      have ha2:∀ g,(Value.slice sa ss.length sc).ownBlock=some g->g≠w5.heap.size:=fun g e=>by have:=P5.out.rows.1 g e;omega
      have ha3:∀ g,(Value.slice la ls.length lc).ownBlock=some g->g≠w5.heap.size:=fun g e=>by have:=P5.out.rows.2.1 g e;omega
      have ha4:∀ g,(Value.slice (some ⟨rb,ro,none⟩) xs.length rx).ownBlock=some g->g≠w5.heap.size:=fun g e=>by have:=P5.out.rows.2.2 g e;omega
      have hPa:=P5.out.below hS2.out;refine ⟨w5.heap.size,rfl,(((((hPa.other (p:=⟨w5.heap.size,0,none⟩) ha1 ha2 ha3 ha4 (.int .i64 e)).other (p:=⟨w5.heap.size,1,none⟩) ha1 ha2 ha3 ha4 (.int .i64 j1)).other (p:=⟨w5.heap.size,2,none⟩) ha1 ha2 ha3 ha4 (.int .i64 0)).other (p:=⟨w5.heap.size,3,none⟩) ha1 ha2 ha3 ha4 (.slice sa' n1 sc')).other (p:=⟨w5.heap.size,4,none⟩) ha1 ha2 ha3 ha4 (.slice la' n2 lc')),by simpa using hql,ha1,j1,sa',n1,sc',la',n2,lc',(qDy XQ _ _ _ _ _).1,hR.imp id (fun q=>⟨q.1,q.2.1,q.2.2.1,?_,?_⟩)⟩
      ·refine qA0 (qC0 q.2.2.2.1 (by have:=P5.out.lt;simp;omega)) (fun g' e'=>?_);obtain ⟨cur,hcc,hgg⟩:=qC5 q.2.2.2.1 e';have hgl:w5.heap.size < g':=by simp at hgg;omega
       rw [zS (by show g'≠w5.heap.size;omega),zS (by show g'≠w5.heap.size;omega),zS (by show g'≠w5.heap.size;omega),zS (by show g'≠w5.heap.size;omega),zS (by show g'≠w5.heap.size;omega)]
      ·refine qA0 (qB0 q.2.2.2.2 (by have:=P5.out.lt;simp;omega)) (fun g' e'=>?_);obtain ⟨cur,hcc,hgg⟩:=qC6 q.2.2.2.2 e';have hgl:w5.heap.size < g':=by simp at hgg;omega
       rw [zS (by show g'≠w5.heap.size;omega),zS (by show g'≠w5.heap.size;omega),zS (by show g'≠w5.heap.size;omega),zS (by show g'≠w5.heap.size;omega),zS (by show g'≠w5.heap.size;omega)]
    obtain ⟨q,rfl,hP,hql,hqn,j1,sa',n1,sc',la',n2,lc',hB,hR⟩:=hcut;have P6:=qB9 hP;have HBQ:=qB9 (qV9.hold hB hql);have HSD6:=qB9 (HSD.out _ hP);have HX6:=qB9 (((qB2.view hP.sd).isIn rfl).at hlt);clear hP hB P5 h0 h1 h2 h3 h4 hbl hbl5 o0 o1 o2 o3 hol HEN HSD;obtain ⟨rb',ro',x',ea',hx',hat',hbl'⟩:=HX6.out;cases ea';have hxx:x'=x:=by have:=HXK.out;rw [hx'] at this;exact Option.some.inj this
    subst hxx;obtain ⟨h0,h1,h2,h3,h4⟩:=hat';clear HX6 hx';go_wp2_with fail
    refine HSD6.out.mono ?_;rintro d w6 ⟨rfl,hb6⟩;have P7:=qB9 (P6.out.below hb6);have HB7:=qB9 (HBQ.out.below hb6);have hqn7:w.heap.size+1≠q:=by omega
    have ho6:e≠0\/(j1=i/\n1=S.length/\n2=L.length/\qB2 w6 (w.heap.size+2) (.slice sa' n1 sc') S/\qA7 w6 (w.heap.size+2) (.slice la' n2 lc') L):=hR.imp id (fun z=>⟨z.1,z.2.1,z.2.2.1,z.2.2.2.1.below hb6,z.2.2.2.2.below hb6⟩);clear hb6 h0 h1 h2 h3 h4 hbl' HSD6 P6 HBQ hR;cases t
    ·have r0:=HB7.out.out 0 _ rfl;have r1:=HB7.out.out 1 _ rfl;have r2:=HB7.out.out 2 _ rfl;have r3:=HB7.out.out 3 _ rfl;have r4:=HB7.out.out 4 _ rfl;have hql7:q < w6.heap.size:=by have:=HB7.out.le;omega
     by_cases e0:e=0
     ·have eb:(e != 0)=false:=by simp [e0]
      obtain ⟨hj,hn1,hn2,ho1,ho2⟩:=ho6.resolve_left (fun q=>q e0);subst hj hn1 hn2;have eS:qO5 ss x'=ss++[x']:=by unfold qO5;rw [HT.out,if_neg (by decide)]
      have eL:qK5 E ss ls x'=qE1 E ss ls x':=by unfold qK5;rw [HT.out,if_neg (by decide)]
      have hpm:qD2 E xs (k+1)=some L:=by
       rw [<- HL0.out,eL,<- HSS.out];exact QL8 HPL.out HXK.out (by rw [HSS.out,HE.out,e0]) (by rw [HSS.out];exact HT.out)
      have hts:xs.take (k+1)=S:=by
       rw [List.take_add_one,HXK.out,HSS.out];exact eS.symm.trans HS0.out
      have P8:Hid (RL w j1 sa' sc' la' lc' S L (some ⟨rb,ro,none⟩) rx xs _):=P7.out.renew ho1 ho2;have HPM:=qB9 hpm;have HTS:=qB9 hts;have o0:=qA1 P7.out.ab 0;have o1:=qA1 P7.out.ab 1;have o2:=qA1 P7.out.ab 2;have o3:=qA1 P7.out.ab 3;simp only [List.getElem?_toArray,List.getElem?_cons_zero,List.getElem?_cons_succ] at o0 o1 o2 o3;have hol:=P7.out.lt;have g0:=qL9 P7.out.ab 0;have g1:=qL9 P7.out.ab 1;have g2:=qL9 P7.out.ab 2;have g3:=qL9 P7.out.ab 3;clear hpm hts ho1 ho2 ho6 eS eL e0;go_wp2_with fail
      exact ⟨⟨k+1,L,sa',sc',la',lc',by omega,by go_num,HPM,by show RL _ _ _ _ _ _ _ _ _ _ _ _;rw [HTS.out];exact P8.out⟩,by simp [intOf];omega⟩
     ·have eb:(e != 0)=true:=by simp [e0]
      have HTL:Hid (N=ss.length/\XS=ss/\XL=ls):=HTB.out (qZ4 HPL.out HXK.out (.inl (by rw [HSS.out,HE.out];exact e0)));clear ho6 e0;have o0:=qA1 P7.out.ab 0;have o1:=qA1 P7.out.ab 1;have o2:=qA1 P7.out.ab 2;have o3:=qA1 P7.out.ab 3;have g1:=qL9 P7.out.ab 1;simp only [List.getElem?_toArray,List.getElem?_cons_zero,List.getElem?_cons_succ] at o0 o1 o2 o3;have hol:=P7.out.lt;obtain ⟨U,hU⟩:∃ U,U=w6.setCell ⟨w.heap.size+1,1,none⟩ (.int .i64 (ss.length:Int)):=⟨_,rfl⟩
      have UB:qH0 (w.heap.size+1) [.int .i64 i,.int .i64 (ss.length:Int),.slice sa ss.length sc,.slice la ls.length lc] U:=by rw [hU];exact (qH0.put (vs:=[.int .i64 i,.int .i64 0,.slice sa ss.length sc,.slice la ls.length lc]) ⟨fun j v e=>by
        match j,e with
        | 0,e=>simp at e;subst e;exact o0
        | 1,e=>simp at e;subst e;exact o1
        | 2,e=>simp at e;subst e;exact o2
        | 3,e=>simp at e;subst e;exact o3
       , fun j=>qL9 P7.out.ab j⟩ 1 (by simp) _)
      have RU:qH0 w.heap.size [.int .i64 0,.int .i64 0,.int .i64 0,.slice none 0 0,.slice none 0 0] U:=by rw [hU];exact P7.out.rs.other (p:=⟨w.heap.size+1,1,none⟩) (by show w.heap.size+1≠w.heap.size;omega) _
      have BU:Hid (Below w.heap.size w U):=by show Below _ _ _;rw [hU];exact P7.out.bl.setCell (Nat.le_succ _) _
      have SU:Hid (qB2 U (w.heap.size+2) (.slice sa ss.length sc) ss):=by show qB2 _ _ _ _;rw [hU];exact qA0 P7.out.so (fun g e=>zS (by obtain ⟨cur,hcc,hgg⟩:=qC5 P7.out.so e;show g≠w.heap.size+1;omega))
      have LU:Hid (qA7 U (w.heap.size+2) (.slice la ls.length lc) ls):=by show qA7 _ _ _ _;rw [hU];exact qA0 P7.out.lo (fun g e=>zS (by obtain ⟨cur,hcc,hgg⟩:=qC6 P7.out.lo e;show g≠w.heap.size+1;omega))
      have hUs:w.heap.size+1 < U.heap.size:=by rw [hU];simpa using hol
      have hUs0:w.heap.size < U.heap.size:=Nat.lt_of_succ_lt hUs;go_upto_region 15 with fail
      rw [<- hU];clear hU o0 o1 o2 o3 g1;have u0:=UB.1 0 _ rfl;have u1:=UB.1 1 _ rfl;have u2:=UB.1 2 _ rfl;have u3:=UB.1 3 _ rfl;have z0:=RU.1 0 _ rfl;have z1:=RU.1 1 _ rfl;have z2:=RU.1 2 _ rfl;have z3:=RU.1 3 _ rfl;have z4:=RU.1 4 _ rfl;have f0:=RU.2 0;have f1:=RU.2 1;have f2:=RU.2 2;have f3:=RU.2 3;have f4:=RU.2 4;go_wp2_with fail
      refine bodyPost_ret (v:=.agg #[.int .i64 0,.int .i64 i,.int .i64 (ss.length:Int),.slice sa ss.length sc,.slice la ls.length lc]) (by simp [results,Tryz.results18,go_sem,z0,z1,z2,z3,z4,hUs0]) rfl ?_;refine ⟨((((BU.out.setCell (Nat.le_refl _) _).setCell (Nat.le_refl _) _).setCell (Nat.le_refl _) _).setCell (Nat.le_refl _) _).setCell (Nat.le_refl _) _,fun q=>absurd HR0.out q,fun _=>?_⟩;rw [HTL.out.1,HTL.out.2.1,HTL.out.2.2];refine ⟨sa,sc,la,lc,rfl,qA0 (qC0 SU.out (by omega)) (fun g e=>?_),qA0 (qB0 LU.out (by omega)) (fun g e=>?_)⟩
      ·obtain ⟨cur,hcc,hgg⟩:=qC5 SU.out e;rw [zS (by show g≠w.heap.size;omega),zS (by show g≠w.heap.size;omega),zS (by show g≠w.heap.size;omega),zS (by show g≠w.heap.size;omega),zS (by show g≠w.heap.size;omega)]
      ·obtain ⟨cur,hcc,hgg⟩:=qC6 LU.out e;rw [zS (by show g≠w.heap.size;omega),zS (by show g≠w.heap.size;omega),zS (by show g≠w.heap.size;omega),zS (by show g≠w.heap.size;omega),zS (by show g≠w.heap.size;omega)]
    ·have HTL:Hid (N=ss.length/\XS=ss/\XL=ls):=HTB.out (qZ4 HPL.out HXK.out (.inr (by rw [HSS.out];exact HT.out)));clear ho6;have o0:=qA1 P7.out.ab 0;have o1:=qA1 P7.out.ab 1;have o2:=qA1 P7.out.ab 2;have o3:=qA1 P7.out.ab 3;have g1:=qL9 P7.out.ab 1;simp only [List.getElem?_toArray,List.getElem?_cons_zero,List.getElem?_cons_succ] at o0 o1 o2 o3;have hol:=P7.out.lt;obtain ⟨U,hU⟩:∃ U,U=w6.setCell ⟨w.heap.size+1,1,none⟩ (.int .i64 (ss.length:Int)):=⟨_,rfl⟩
     have UB:qH0 (w.heap.size+1) [.int .i64 i,.int .i64 (ss.length:Int),.slice sa ss.length sc,.slice la ls.length lc] U:=by rw [hU];exact (qH0.put (vs:=[.int .i64 i,.int .i64 0,.slice sa ss.length sc,.slice la ls.length lc]) ⟨fun j v e=>by
       match j,e with
       | 0,e=>simp at e;subst e;exact o0
       | 1,e=>simp at e;subst e;exact o1
       | 2,e=>simp at e;subst e;exact o2
       | 3,e=>simp at e;subst e;exact o3
      , fun j=>qL9 P7.out.ab j⟩ 1 (by simp) _)
     have RU:qH0 w.heap.size [.int .i64 0,.int .i64 0,.int .i64 0,.slice none 0 0,.slice none 0 0] U:=by rw [hU];exact P7.out.rs.other (p:=⟨w.heap.size+1,1,none⟩) (by show w.heap.size+1≠w.heap.size;omega) _
     have BU:Hid (Below w.heap.size w U):=by show Below _ _ _;rw [hU];exact P7.out.bl.setCell (Nat.le_succ _) _
     have SU:Hid (qB2 U (w.heap.size+2) (.slice sa ss.length sc) ss):=by show qB2 _ _ _ _;rw [hU];exact qA0 P7.out.so (fun g e=>zS (by obtain ⟨cur,hcc,hgg⟩:=qC5 P7.out.so e;show g≠w.heap.size+1;omega))
     have LU:Hid (qA7 U (w.heap.size+2) (.slice la ls.length lc) ls):=by show qA7 _ _ _ _;rw [hU];exact qA0 P7.out.lo (fun g e=>zS (by obtain ⟨cur,hcc,hgg⟩:=qC6 P7.out.lo e;show g≠w.heap.size+1;omega))
     have hUs:w.heap.size+1 < U.heap.size:=by rw [hU];simpa using hol
     have hUs0:w.heap.size < U.heap.size:=Nat.lt_of_succ_lt hUs;go_upto_region 15 with fail
     rw [<- hU];clear hU o0 o1 o2 o3 g1;have u0:=UB.1 0 _ rfl;have u1:=UB.1 1 _ rfl;have u2:=UB.1 2 _ rfl;have u3:=UB.1 3 _ rfl;have z0:=RU.1 0 _ rfl;have z1:=RU.1 1 _ rfl;have z2:=RU.1 2 _ rfl;have z3:=RU.1 3 _ rfl;have z4:=RU.1 4 _ rfl;have f0:=RU.2 0;have f1:=RU.2 1;have f2:=RU.2 2;have f3:=RU.2 3;have f4:=RU.2 4;go_wp2_with fail
     refine bodyPost_ret (v:=.agg #[.int .i64 0,.int .i64 i,.int .i64 (ss.length:Int),.slice sa ss.length sc,.slice la ls.length lc]) (by simp [results,Tryz.results18,go_sem,z0,z1,z2,z3,z4,hUs0]) rfl ?_;refine ⟨((((BU.out.setCell (Nat.le_refl _) _).setCell (Nat.le_refl _) _).setCell (Nat.le_refl _) _).setCell (Nat.le_refl _) _).setCell (Nat.le_refl _) _,fun q=>absurd HR0.out q,fun _=>?_⟩;rw [HTL.out.1,HTL.out.2.1,HTL.out.2.2];refine ⟨sa,sc,la,lc,rfl,qA0 (qC0 SU.out (by omega)) (fun g e=>?_),qA0 (qB0 LU.out (by omega)) (fun g e=>?_)⟩
     ·obtain ⟨cur,hcc,hgg⟩:=qC5 SU.out e;rw [zS (by show g≠w.heap.size;omega),zS (by show g≠w.heap.size;omega),zS (by show g≠w.heap.size;omega),zS (by show g≠w.heap.size;omega),zS (by show g≠w.heap.size;omega)]
     ·obtain ⟨cur,hcc,hgg⟩:=qC6 LU.out e;rw [zS (by show g≠w.heap.size;omega),zS (by show g≠w.heap.size;omega),zS (by show g≠w.heap.size;omega),zS (by show g≠w.heap.size;omega),zS (by show g≠w.heap.size;omega)]
   ·have hkn:k=xs.length:=by omega
    have HTL:Hid (N=(xs.take k).length/\XS=xs.take k/\XL=ls):=by
     have z:=HOF.out k ls hk HPL.out (.inl hkn);show _/\_
     rw [HTK.out];exact z
    obtain ⟨ss,hss⟩:∃ ss,xs.take k=ss:=⟨_,rfl⟩;rw [hss] at P4 HTL;have hlf:¬ ((k:Int) < (xs.length:Int)):=by omega
    clear hss hlt;have o0:=qA1 P4.out.ab 0;have o1:=qA1 P4.out.ab 1;have o2:=qA1 P4.out.ab 2;have o3:=qA1 P4.out.ab 3;have g1:=qL9 P4.out.ab 1;simp only [List.getElem?_toArray,List.getElem?_cons_zero,List.getElem?_cons_succ] at o0 o1 o2 o3;have hol:=P4.out.lt;obtain ⟨U,hU⟩:∃ U,U=wr.setCell ⟨w.heap.size+1,1,none⟩ (.int .i64 (ss.length:Int)):=⟨_,rfl⟩
    have UB:qH0 (w.heap.size+1) [.int .i64 i,.int .i64 (ss.length:Int),.slice sa ss.length sc,.slice la ls.length lc] U:=by rw [hU];exact (qH0.put (vs:=[.int .i64 i,.int .i64 0,.slice sa ss.length sc,.slice la ls.length lc]) ⟨fun j v e=>by
      match j,e with
      | 0,e=>simp at e;subst e;exact o0
      | 1,e=>simp at e;subst e;exact o1
      | 2,e=>simp at e;subst e;exact o2
      | 3,e=>simp at e;subst e;exact o3
     , fun j=>qL9 P4.out.ab j⟩ 1 (by simp) _)
    have RU:qH0 w.heap.size [.int .i64 0,.int .i64 0,.int .i64 0,.slice none 0 0,.slice none 0 0] U:=by rw [hU];exact P4.out.rs.other (p:=⟨w.heap.size+1,1,none⟩) (by show w.heap.size+1≠w.heap.size;omega) _
    have BU:Hid (Below w.heap.size w U):=by show Below _ _ _;rw [hU];exact P4.out.bl.setCell (Nat.le_succ _) _
    have SU:Hid (qB2 U (w.heap.size+2) (.slice sa ss.length sc) ss):=by show qB2 _ _ _ _;rw [hU];exact qA0 P4.out.so (fun g e=>zS (by obtain ⟨cur,hcc,hgg⟩:=qC5 P4.out.so e;show g≠w.heap.size+1;omega))
    have LU:Hid (qA7 U (w.heap.size+2) (.slice la ls.length lc) ls):=by show qA7 _ _ _ _;rw [hU];exact qA0 P4.out.lo (fun g e=>zS (by obtain ⟨cur,hcc,hgg⟩:=qC6 P4.out.lo e;show g≠w.heap.size+1;omega))
    have hUs:w.heap.size+1 < U.heap.size:=by rw [hU];simpa using hol
    have hUs0:w.heap.size < U.heap.size:=Nat.lt_of_succ_lt hUs;go_upto_region 15 with fail
    rw [<- hU];clear hU o0 o1 o2 o3 g1;have u0:=UB.1 0 _ rfl;have u1:=UB.1 1 _ rfl;have u2:=UB.1 2 _ rfl;have u3:=UB.1 3 _ rfl;have z0:=RU.1 0 _ rfl;have z1:=RU.1 1 _ rfl;have z2:=RU.1 2 _ rfl;have z3:=RU.1 3 _ rfl;have z4:=RU.1 4 _ rfl;have f0:=RU.2 0;have f1:=RU.2 1;have f2:=RU.2 2;have f3:=RU.2 3;have f4:=RU.2 4;go_wp2_with fail
    refine bodyPost_ret (v:=.agg #[.int .i64 0,.int .i64 i,.int .i64 (ss.length:Int),.slice sa ss.length sc,.slice la ls.length lc]) (by simp [results,Tryz.results18,go_sem,z0,z1,z2,z3,z4,hUs0]) rfl ?_;refine ⟨((((BU.out.setCell (Nat.le_refl _) _).setCell (Nat.le_refl _) _).setCell (Nat.le_refl _) _).setCell (Nat.le_refl _) _).setCell (Nat.le_refl _) _,fun q=>absurd HR0.out q,fun _=>?_⟩;rw [HTL.out.1,HTL.out.2.1,HTL.out.2.2];refine ⟨sa,sc,la,lc,rfl,qA0 (qC0 SU.out (by omega)) (fun g e=>?_),qA0 (qB0 LU.out (by omega)) (fun g e=>?_)⟩
    ·obtain ⟨cur,hcc,hgg⟩:=qC5 SU.out e;rw [zS (by show g≠w.heap.size;omega),zS (by show g≠w.heap.size;omega),zS (by show g≠w.heap.size;omega),zS (by show g≠w.heap.size;omega),zS (by show g≠w.heap.size;omega)]
    ·obtain ⟨cur,hcc,hgg⟩:=qC6 LU.out e;rw [zS (by show g≠w.heap.size;omega),zS (by show g≠w.heap.size;omega),zS (by show g≠w.heap.size;omega),zS (by show g≠w.heap.size;omega),zS (by show g≠w.heap.size;omega)]
 ·have hkb:(kc != 0)=true:=by simp [hk]
  have HE:Hid (res=kc):=HR2.out;have z0:=R3.out.1 0 _ rfl;have z1:=R3.out.1 1 _ rfl;have z2:=R3.out.1 2 _ rfl;have z3:=R3.out.1 3 _ rfl;have z4:=R3.out.1 4 _ rfl;have f0:=R3.out.2 0;have f1:=R3.out.2 1;have f2:=R3.out.2 2;have f3:=R3.out.2 3;have f4:=R3.out.2 4;have hzl:w.heap.size < w3.heap.size:=by omega
  have HNK:Hid (kc≠0):=hk;clear hk;go_wp2_with fail
  refine bodyPost_ret (v:=.agg #[.int .i64 kc,.int .i64 0,.int .i64 0,.slice none 0 0,.slice none 0 0]) (by simp [results,Tryz.results18,go_sem,z0,z1,z2,z3,z4,hzl]) rfl ?_;exact ⟨((((B3.out.setCell (Nat.le_refl _) _).setCell (Nat.le_refl _) _).setCell (Nat.le_refl _) _).setCell (Nat.le_refl _) _).setCell (Nat.le_refl _) _,fun _=>by rw [HE.out],fun q=>by rw [HE.out] at q;exact absurd q HNK.out⟩
