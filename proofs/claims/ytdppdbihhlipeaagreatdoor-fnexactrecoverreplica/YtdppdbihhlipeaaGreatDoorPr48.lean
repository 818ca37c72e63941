/- Contracts. -/
import Derived.Test.YtdppdbihhlipeaaGreatDoorPr47
import Derived.Test.YtdppdbihhlipeaaGreatDoorPr45
namespace Go.Proofs.YtdppdbihhlipeaaGreatDoor
set_option maxRecDepth 100000
set_option maxHeartbeats 8000000
open Go.RowKit
set_option linter.unusedVariables false
set_option linter.unusedSimpArgs false

structure PL (w:World) (i:Int) (sa:Option Addr) (sc:Nat) (la:Option Addr) (lc:Nat) (ss:List StI) (ls:List LkI) (W:World):Prop where
 rs:qH0 w.heap.size [.int .i64 0,.int .i64 0,.slice none 0 0,.slice none 0 0] W
 ab:W.heap[w.heap.size+1]? = some (.cells #[.int .i64 i,.int .i64 0,.slice sa ss.length sc,.slice la ls.length lc] 36 (0,0))
 so:qB2 W (w.heap.size+2) (.slice sa ss.length sc) ss
 lo:qA7 W (w.heap.size+2) (.slice la ls.length lc) ls
 bl:Below w.heap.size w W
theorem PL.lt {w:World} {i:Int} {sa:Option Addr} {sc:Nat} {la:Option Addr} {lc:Nat} {ss:List StI} {ls:List LkI} {W:World} (h:PL w i sa sc la lc ss ls W):w.heap.size+1 < W.heap.size:=(Array.getElem?_eq_some_iff.1 h.ab).1
theorem PL.below {w:World} {i:Int} {sa:Option Addr} {sc:Nat} {la:Option Addr} {lc:Nat} {ss:List StI} {ls:List LkI} {W W':World} (h:PL w i sa sc la lc ss ls W) (hb:Below W.heap.size W W'):PL w i sa sc la lc ss ls W' :=
 ⟨qH0.below h.rs (Nat.lt_of_succ_lt h.lt) hb,(hb.block _ h.lt).trans h.ab,h.so.below hb,h.lo.below hb,h.bl.trans (hb.mono h.bl.size)⟩
theorem PL.other {w:World} {i:Int} {sa:Option Addr} {sc:Nat} {la:Option Addr} {lc:Nat} {ss:List StI} {ls:List LkI} {W:World} (h:PL w i sa sc la lc ss ls W) {p:Addr} (h0:w.heap.size+1 < p.block) (h1:∀ g,(Value.slice sa ss.length sc).ownBlock=some g->g≠p.block) (h2:∀ g,(Value.slice la ls.length lc).ownBlock=some g->g≠p.block) (v:Value):PL w i sa sc la lc ss ls (W.setCell p v) :=
 ⟨h.rs.other (by omega) v,(zS (by omega)).trans h.ab,qA0 h.so (fun g e=>zS (h1 g e)),qA0 h.lo (fun g e=>zS (h2 g e)),h.bl.setCell (by omega) v⟩
theorem PL.rows {w:World} {i:Int} {sa:Option Addr} {sc:Nat} {la:Option Addr} {lc:Nat} {ss:List StI} {ls:List LkI} {W:World} (h:PL w i sa sc la lc ss ls W):(∀ g,(Value.slice sa ss.length sc).ownBlock=some g->g < W.heap.size)/\(∀ g,(Value.slice la ls.length lc).ownBlock=some g->g < W.heap.size) :=
 ⟨fun g e=>by obtain ⟨cur,hc,_⟩:=qC5 h.so e;exact (Array.getElem?_eq_some_iff.1 hc).1,fun g e=>by obtain ⟨cur,hc,_⟩:=qC6 h.lo e;exact (Array.getElem?_eq_some_iff.1 hc).1⟩
def plR (i:Int) (sa:Option Addr) (sc:Nat) (la:Option Addr) (lc:Nat) (ss:List StI) (ls:List LkI):qL4:=⟨i,0,sa,ss.length,sc,ss,la,ls.length,lc,ls⟩
theorem PL.rep {w:World} {i:Int} {sa:Option Addr} {sc:Nat} {la:Option Addr} {lc:Nat} {ss:List StI} {ls:List LkI} {W:World} (h:PL w i sa sc la lc ss ls W):qG1 W (plR i sa sc la lc ss ls)/\qJ7 (plR i sa sc la lc ss ls)/\(∀ p,la=some p->∃ b0 o0,p=⟨b0,o0,none⟩/\b0 < W.heap.size)/\qF8 W (w.heap.size+1) (plR i sa sc la lc ss ls):=by
 refine ⟨⟨StV.isIn rfl h.so.view,LkV.isIn rfl h.lo.view⟩,⟨fun e=>?_,fun e=>?_⟩,fun p e=>?_,⟨qA1 h.ab 0,qA1 h.ab 1,qA1 h.ab 2,qA1 h.ab 3⟩⟩
 ·rcases h.so.form with ⟨q,_⟩ | ⟨g,c,q,_⟩
  ·injection q with q1 q2 q3
   exact ⟨q2,q3⟩
  ·have : sa=some ⟨g,0,none⟩:=by injection q
   rw [show sa=none from e] at this;cases this
 ·rcases h.lo.form with ⟨q,_⟩ | ⟨g,c,q,_⟩
  ·injection q with q1 q2 q3
   exact ⟨q2,q3⟩
  ·have : la=some ⟨g,0,none⟩:=by injection q
   rw [show la=none from e] at this;cases this
 ·rcases h.lo.form with ⟨q,_⟩ | ⟨g,c,q,_,hg,_⟩
  ·have : la=none:=by injection q
   rw [e] at this;cases this
  ·have : la=some ⟨g,0,none⟩:=by injection q
   rw [e] at this;cases this;exact ⟨g,0,rfl,hg⟩
theorem PL.renew {w:World} {i:Int} {sa:Option Addr} {sc:Nat} {la:Option Addr} {lc:Nat} {ss:List StI} {ls:List LkI} {W:World} (h:PL w i sa sc la lc ss ls W) {sa':Option Addr} {sc':Nat} {la':Option Addr} {lc':Nat} {S:List StI} {L:List LkI} (ho1:qB2 W (w.heap.size+2) (.slice sa' S.length sc') S) (ho2:qA7 W (w.heap.size+2) (.slice la' L.length lc') L) :
  PL w i sa' sc' la' lc' S L ((((W.setCell ⟨w.heap.size+1,0,none⟩ (.int .i64 i)).setCell ⟨w.heap.size+1,1,none⟩ (.int .i64 0)).setCell ⟨w.heap.size+1,2,none⟩ (.slice sa' S.length sc')).setCell ⟨w.heap.size+1,3,none⟩ (.slice la' L.length lc')):=by
 have ne:∀ g,w.heap.size+2<=g->g≠w.heap.size+1:=fun g hg=>by omega
 have nb:(⟨w.heap.size+1,0,none⟩:Addr).block≠w.heap.size:=by show w.heap.size+1≠w.heap.size;omega
 refine ⟨(((h.rs.other nb _).other (p:=⟨w.heap.size+1,1,none⟩) nb _).other (p:=⟨w.heap.size+1,2,none⟩) nb _).other (p:=⟨w.heap.size+1,3,none⟩) nb _,qL1 (qL1 (qL1 (qL1 h.ab))),qA0 ho1 (fun g e=>?_),qA0 ho2 (fun g e=>?_),(((h.bl.setCell (Nat.le_succ _) _).setCell (Nat.le_succ _) _).setCell (Nat.le_succ _) _).setCell (Nat.le_succ _) _⟩
 ·obtain ⟨cur,hcc,hgg⟩:=qC5 ho1 e;rw [zS (ne g hgg),zS (ne g hgg),zS (ne g hgg),zS (ne g hgg)]
 ·obtain ⟨cur,hcc,hgg⟩:=qC6 ho2 e;rw [zS (ne g hgg),zS (ne g hgg),zS (ne g hgg),zS (ne g hgg)]
theorem qDy {q:Nat} {x0 x1 x2 x3 x4:Value} {X:World} (h:qH0 q [x0,x1,x2,x3,x4] X) (y0 y1 y2 y3 y4:Value):qH0 q [y0,y1,y2,y3,y4] (((((X.setCell ⟨q,0,none⟩ y0).setCell ⟨q,1,none⟩ y1).setCell ⟨q,2,none⟩ y2).setCell ⟨q,3,none⟩ y3).setCell ⟨q,4,none⟩ y4) :=
 ((((h.put 0 (by simp) y0).put 1 (by simp) y1).put 2 (by simp) y2).put 3 (by simp) y3).put 4 (by simp) y4
def PC (w:World) (i:Int) (sa:Option Addr) (sc:Nat) (la:Option Addr) (lc:Nat) (ss:List StI) (ls:List LkI) (e:Int) (S:List StI) (L:List LkI) (s:Value) (W:World):Prop:=∃ q:Nat,s = .pointer (some ⟨q,0,none⟩)/\PL w i sa sc la lc ss ls W/\q < W.heap.size/\w.heap.size+1 < q/\∃ j1 sa' n1 sc' la' n2 lc',qV9 q [.int .i64 e,.int .i64 j1,.int .i64 0,.slice sa' n1 sc',.slice la' n2 lc'] W/\(e≠0\/(j1=i/\n1=S.length/\n2=L.length/\qB2 W (w.heap.size+2) (.slice sa' n1 sc') S/\qA7 W (w.heap.size+2) (.slice la' n2 lc') L))
def qMy (i:Int) (xs:List StI) (n:Nat) (o:Option (List LkI)) (w:World) (d:Ending) (w':World):Prop :=
 Below w.heap.size w w'/\(∀ ls,o=some ls->∃ (sa:Option Addr) (sc:Nat) (la:Option Addr) (lc:Nat),d = .returned (.tuple #[.agg #[.int .i64 i,.int .i64 0,.slice sa n sc,.slice la ls.length lc],.bool true])/\qB2 w' (w.heap.size+1) (.slice sa n sc) xs/\qA7 w' (w.heap.size+1) (.slice la ls.length lc) ls)/\(o=none->∃ (sa:Option Addr) (sn sc:Nat) (la:Option Addr) (ln lc:Nat),d = .returned (.tuple #[.agg #[.int .i64 i,.int .i64 0,.slice sa sn sc,.slice la ln lc],.bool false]))
theorem QW7 (E:qH1) (i:Int) (a:Option Addr) (m cap:Nat) (cs:List qA4) (ta:Option Addr) (n tc:Nat) (xs:List StI) (w:World) (hEC:qN7 E cs) (hc:qA6 w a m cs) (hm:0 < m) (hm8:m<=8) (h:qN8 w ta n xs) (hn:n<=1048576) :
  Calls Tryz.prog 58 #[.int .i64 i,.slice a m cap,.slice ta n tc] w fun d w'=>qMy i xs n (qD2 E xs n) w d w':=by
 have HEC:Hid (qN7 E cs):=hEC;have HC:Hid (∀ W,Below w.heap.size w W->qA6 W a m cs/\qN8 W ta n xs):=fun W hb=>⟨hc.below hb,h.below hb⟩
 have hn':(n:Int)<=1048576:=by omega
 have HXL:Hid (xs.length=n):=h.1;obtain ⟨V,hV⟩:∃ V,V=(w.alloc (.cells #[.int .i64 0,.int .i64 0,.slice none 0 0,.slice none 0 0] 36)).alloc (.cells #[.int .i64 i,.int .i64 0,.slice none 0 0,.slice none 0 0] 36):=⟨_,rfl⟩
 have L0:Hid (PL w i none 0 none 0 [] [] V):=by
  show PL _ _ _ _ _ _ _ _ _
  rw [hV];refine ⟨qH0.below (qG7 w _ _) (by simp) (zN),?_,World.ownsRow_nil _ _ _ _,World.ownsRow_nil _ _ _ _,(zN).alloc (by simp) _⟩;have e:w.heap.size+1=(w.alloc (.cells #[.int .i64 0,.int .i64 0,.slice none 0 0,.slice none 0 0] 36)).heap.size:=by simp
  have q:=QJ4 (w.alloc (.cells #[.int .i64 0,.int .i64 0,.slice none 0 0,.slice none 0 0] 36)) (.cells #[.int .i64 i,.int .i64 0,.slice none 0 0,.slice none 0 0] 36);rw [<- e] at q;exact q
 clear hEC hc h;go_enter Tryz.func58,Tryz.ntmps58;go_upto_region 2 with fail
 rw [<- hV];clear hV;go_wp2_with fail
 go_loopw [9] (fun j wr=>∃ (k:Nat) (ls:List LkI) (sa:Option Addr) (sc:Nat) (la:Option Addr) (lc:Nat),k<=n/\j = .int .i64 (k:Int)/\Hid (qD2 E xs k=some ls)/\Hid (PL w i sa sc la lc (xs.take k) ls wr)) (fun j _=>n - (intOf j).toNat)
 case atStart=>exact ⟨0,[],none,0,none,0,Nat.zero_le _,rfl,rfl,L0⟩
 case round =>
  clear L0;obtain ⟨k,ls,sa,sc,la,lc,hk,rfl,HPL,P4⟩:=hrel;by_cases hlt:k < n
  ·have hlt':(k:Int) < (n:Int):=by omega
   obtain ⟨b,off,x,ea,hx,hat,hbl⟩:=(HC.out _ P4.out.bl).2.at hlt
   subst ea;have HXK:Hid (xs[k]? = some x):=hx;have HTK:Hid ((xs.take k).length=k):=by show _=_;rw [List.length_take];have:=HXL.out;omega
   obtain ⟨ss,hss⟩:∃ ss,xs.take k=ss:=⟨_,rfl⟩;have HSS:Hid (xs.take k=ss):=hss;have hRp:RpS E ss ls:=by rw [<- hss];exact QL6 k ls (by have:=HXL.out;omega) HPL.out
   rw [hss] at P4;obtain ⟨t,ht⟩:∃ t,qD9 ss x=t:=⟨_,rfl⟩;have HT:Hid (qD9 ss x=t):=ht;have HRP:Hid (RpS E ss ls):=hRp
   have HSD:Hid (Calls Tryz.prog 47 #[.pointer (some ⟨w.heap.size+1,0,none⟩),.agg #[.int .i64 x.k,.int .i64 x.e,.int .i64 x.f,.int .i64 x.s,.int .i64 x.n]] wr fun d w'=>d = .returned (.bool t)/\Below wr.heap.size wr w'):=by
    show Calls _ _ _ _ _
    rw [<- ht];exact qK3 _ (plR i sa sc la lc ss ls) x wr P4.out.rep.2.2.2 P4.out.rep.1.said (by show ss.length<=1048576;have:=hRp.len;omega)
   obtain ⟨h0,h1,h2,h3,h4⟩:=hat;clear hss ht hRp hx;go_wp2_with fail
   refine HSD.out.mono ?_;rintro d w5 ⟨rfl,hb5⟩;have P5:=qD7 (P4.out.below hb5);have hat5:qL3 w5 b (off+k * 5) x:=qL3.below ⟨h0,h1,h2,h3,h4⟩ hb5 hbl;have hbl5:b < w5.heap.size:=Nat.lt_of_lt_of_le hbl hb5.size;clear HSD h0 h1 h2 h3 h4 hbl hb5 P4;cases t
   ·obtain ⟨e,he⟩:∃ e,qE9 E ss ls x=e:=⟨_,rfl⟩;have HE:Hid (qE9 E ss ls x=e):=he;obtain ⟨S,hS0⟩:∃ S,ss++[x]=S:=⟨_,rfl⟩;have HS0:Hid (ss++[x]=S):=hS0;obtain ⟨L,hL0⟩:∃ L,qE1 E ss ls x=L:=⟨_,rfl⟩;have HL0:Hid (qE1 E ss ls x=L):=hL0
    have HEN:Hid (∀ W,PL w i sa sc la lc ss ls W->Calls Tryz.prog 46 #[.agg #[.int .i64 i,.int .i64 0,.slice sa ss.length sc,.slice la ls.length lc],.slice a m cap,.agg #[.int .i64 x.k,.int .i64 x.e,.int .i64 x.f,.int .i64 x.s,.int .i64 x.n]] W fun d w'=>∃ (j1:Int) (sa':Option Addr) (n1 sc':Nat) (la':Option Addr) (n2 lc':Nat),d = .returned (.agg #[.int .i64 e,.int .i64 j1,.int .i64 0,.slice sa' n1 sc',.slice la' n2 lc'])/\Below W.heap.size W w'/\(e≠0\/(j1=i/\n1=S.length/\n2=L.length/\qB2 w' W.heap.size (.slice sa' n1 sc') S/\qA7 w' W.heap.size (.slice la' n2 lc') L))):=fun W q=>by
     have eS:qO5 ss x=S:=by unfold qO5;rw [HT.out,if_neg (by decide)];exact hS0
     have eL:qK5 E ss ls x=L:=by unfold qK5;rw [HT.out,if_neg (by decide)];exact hL0
     have c:=QG9 E (plR i sa sc la lc ss ls) a m cap cs x W q.rep.1 q.rep.2.1 q.rep.2.2.1 (HC.out _ q.bl).1 HEC.out hm hm8 HRP.out;have eC':qE9 E (plR i sa sc la lc ss ls).ss (plR i sa sc la lc ss ls).ls x=e:=he;have eS':qO5 (plR i sa sc la lc ss ls).ss x=S:=eS;have eL':qK5 E (plR i sa sc la lc ss ls).ss (plR i sa sc la lc ss ls).ls x=L:=eL;rw [eC',eS',eL'] at c;refine Calls.mono c ?_;rintro d w' ⟨g1,g2,g3⟩;by_cases e0:e=0
     ·obtain ⟨sa',sc',la',lc',gd,go1,go2⟩:=g3 e0;exact ⟨i,sa',S.length,sc',la',L.length,lc',by rw [gd,e0];rfl,g1,.inr ⟨rfl,rfl,rfl,go1,go2⟩⟩
     ·exact ⟨0,none,0,0,none,0,0,g2 e0,g1,.inl e0⟩
    clear he hS0 hL0;go_upto_region 7 with fail
    obtain ⟨h0,h1,h2,h3,h4⟩:=hat5;have o0:=qA1 P5.out.ab 0;have o1:=qA1 P5.out.ab 1;have o2:=qA1 P5.out.ab 2;have o3:=qA1 P5.out.ab 3;simp only [List.getElem?_toArray,List.getElem?_cons_zero,List.getElem?_cons_succ] at o0 o1 o2 o3;have hol:=P5.out.lt;go_cut [10] from 25 to 31 (fun s W=>PC w i sa sc la lc ss ls e S L s W)
    case first =>
     refine wp_region_held_drew (S:=fun w'=>(∀ b o,b < w5.heap.size->w'.cell? ⟨b,o,none⟩=w5.cell? ⟨b,o,none⟩)/\Below w5.heap.size w5 w') (by kernel_rfl) (qC1 _) (fun hHeld=>?_);refine Zk.go [0,1,2,3,4,5] ?_
     iterate 6
      refine Zk.st (v:=?_) rfl ?_ ?_;rotate_left 1
      ·intro w hSw;(try dsimp only at hSw);go_simp;try (with_reducible rfl)
      try simp only [Act.put,zA,zB,zC,zD,zE,zF]
     refine Zk.fin ?_;refine wpAnyH_ready (rs:=[6,7]) (by kernel_rfl) (by simp) ?_;refine AllReadyH.cons rfl (fun K hK=>?_) (AllReadyH.cons rfl (fun K hK=>?_) AllReadyH.nil)
     ·go_simp;refine (HEN.out _ (P5.out.below hHeld.2)).mono ?_;rintro d w2 ⟨j1,sa',n1,sc',la',n2,lc',rfl,hb2,hR⟩;have hS:=qA9 hHeld hb2;have hs2:=hb2.size;have hs2':w5.heap.size<=w2.heap.size:=hs2;have hS2:=qD7 hS.2;refine hK.out _ _ hS (fun hHeld=>?_);clear hK K;try simp only [Act.put,zA,zB,zC,zD,zE,zF]
      refine Zk.rd (i:=7) rfl (fun K hK=>?_);go_simp;have hS:=kpN (hHeld.2.alloc hHeld.2.size (.cells #[.int .i64 0,.int .i64 0,.int .i64 0,.slice none 0 0,.slice none 0 0] 48));refine hK.out _ _ hS (fun hHeld=>?_);clear hK K;try simp only [Act.put,zA,zB,zC,zD,zE,zF]
      refine Zk.rd (i:=8) rfl (fun K hK=>?_);go_simp;have hS:=kpN (hS2.out.alloc hS2.out.size (.cells #[.int .i64 e,.int .i64 j1,.int .i64 0,.slice sa' n1 sc',.slice la' n2 lc'] 48));refine hK.out _ _ hS (fun hHeld=>?_);clear hK K;try simp only [Act.put,zA,zB,zC,zD,zE,zF]
      refine wpAnyH_done (by kernel_rfl) ?_ _;go_wp2_with fail
      go_meet
      have ha1:w.heap.size+1 < w2.heap.size:=by have:=P5.out.lt;omega
      have AA:Below w2.heap.size w2 (w2.alloc (.cells #[.int .i64 e,.int .i64 j1,.int .i64 0,.slice sa' n1 sc',.slice la' n2 lc'] 48)):=zN;have hPa:PL w i sa sc la lc ss ls (w2.alloc (.cells #[.int .i64 e,.int .i64 j1,.int .i64 0,.slice sa' n1 sc',.slice la' n2 lc'] 48)):=(P5.out.below hS2.out).below AA;have hB:qV9 w2.heap.size [.int .i64 e,.int .i64 j1,.int .i64 0,.slice sa' n1 sc',.slice la' n2 lc'] (w2.alloc (.cells #[.int .i64 e,.int .i64 j1,.int .i64 0,.slice sa' n1 sc',.slice la' n2 lc'] 48)):=(qE6 w2 _ _).out;have hlt2:=P5.out.lt;refine ⟨w2.heap.size,rfl,hPa,by simp,ha1,j1,sa',n1,sc',la',n2,lc',hB,hR.imp id (fun q=>⟨q.1,q.2.1,q.2.2.1,(qC0 q.2.2.2.1 (by show w.heap.size+2<=w5.heap.size;omega)).below AA,(qB0 q.2.2.2.2 (by show w.heap.size+2<=w5.heap.size;omega)).below AA⟩)⟩
     ·go_simp;have hS:=kpN (hHeld.2.alloc hHeld.2.size (.cells #[.int .i64 0,.int .i64 0,.int .i64 0,.slice none 0 0,.slice none 0 0] 48));refine hK.out _ _ hS (fun hHeld=>?_);clear hK K;try simp only [Act.put,zA,zB,zC,zD,zE,zF]
      refine Zk.rd (i:=6) rfl (fun K hK=>?_);go_simp;refine (HEN.out _ (P5.out.below hHeld.2)).mono ?_;rintro d w2 ⟨j1,sa',n1,sc',la',n2,lc',rfl,hb2,hR⟩;have hS:=qA9 hHeld hb2;have hs2:=hb2.size;have hs2':w5.heap.size+1<=w2.heap.size:=by simpa using hs2
      have XQ:qH0 w5.heap.size [.int .i64 0,.int .i64 0,.int .i64 0,.slice none 0 0,.slice none 0 0] w2:=qH0.below (qG7 w5.drew _ _) (by simp) hb2;have hS2:=qD7 hS.2;have z0:=XQ.1 0 _ rfl;have z1:=XQ.1 1 _ rfl;have z2:=XQ.1 2 _ rfl;have z3:=XQ.1 3 _ rfl;have z4:=XQ.1 4 _ rfl;have f0:=XQ.2 0;have f1:=XQ.2 1;have f2:=XQ.2 2;have f3:=XQ.2 3;have f4:=XQ.2 4;have hql:w5.heap.size < w2.heap.size:=hs2';refine hK.out _ _ hS (fun hHeld=>?_);clear hK K;try simp only [Act.put,zA,zB,zC,zD,zE,zF]
      refine Zk.rd (i:=8) rfl (fun K hK=>?_);go_simp;have hS:=kpN (((((hHeld.2.setCell (p:=⟨w5.heap.size,0,none⟩) (Nat.le_refl _) (.int .i64 e)).setCell (p:=⟨w5.heap.size,1,none⟩) (Nat.le_refl _) (.int .i64 j1)).setCell (p:=⟨w5.heap.size,2,none⟩) (Nat.le_refl _) (.int .i64 0)).setCell (p:=⟨w5.heap.size,3,none⟩) (Nat.le_refl _) (.slice sa' n1 sc')).setCell (p:=⟨w5.heap.size,4,none⟩) (Nat.le_refl _) (.slice la' n2 lc'));refine hK.out _ _ hS (fun hHeld=>?_);clear hK K;try simp only [Act.put,zA,zB,zC,zD,zE,zF]
      refine wpAnyH_done (by kernel_rfl) ?_ _;go_wp2_with fail
      go_meet
      have ha1:w.heap.size+1 < w5.heap.size:=by have:=P5.out.lt;omega
      have ha2:∀ g,(Value.slice sa ss.length sc).ownBlock=some g->g≠w5.heap.size:=fun g e=>by have:=P5.out.rows.1 g e;omega
      have ha3:∀ g,(Value.slice la ls.length lc).ownBlock=some g->g≠w5.heap.size:=fun g e=>by have:=P5.out.rows.2 g e;omega
      have hPa:=P5.out.below hS2.out;refine ⟨w5.heap.size,rfl,(((((hPa.other (p:=⟨w5.heap.size,0,none⟩) ha1 ha2 ha3 (.int .i64 e)).other (p:=⟨w5.heap.size,1,none⟩) ha1 ha2 ha3 (.int .i64 j1)).other (p:=⟨w5.heap.size,2,none⟩) ha1 ha2 ha3 (.int .i64 0)).other (p:=⟨w5.heap.size,3,none⟩) ha1 ha2 ha3 (.slice sa' n1 sc')).other (p:=⟨w5.heap.size,4,none⟩) ha1 ha2 ha3 (.slice la' n2 lc')),by simpa using hql,ha1,j1,sa',n1,sc',la',n2,lc',(qDy XQ _ _ _ _ _).1,hR.imp id (fun q=>⟨q.1,q.2.1,q.2.2.1,?_,?_⟩)⟩
      ·refine qA0 (qC0 q.2.2.2.1 (by have:=P5.out.lt;simp;omega)) (fun g' e'=>?_);obtain ⟨cur,hcc,hgg⟩:=qC5 q.2.2.2.1 e';have hgl:w5.heap.size < g':=by simp at hgg;omega
       rw [zS (by show g'≠w5.heap.size;omega),zS (by show g'≠w5.heap.size;omega),zS (by show g'≠w5.heap.size;omega),zS (by show g'≠w5.heap.size;omega),zS (by show g'≠w5.heap.size;omega)]
      ·refine qA0 (qB0 q.2.2.2.2 (by have:=P5.out.lt;simp;omega)) (fun g' e'=>?_);obtain ⟨cur,hcc,hgg⟩:=qC6 q.2.2.2.2 e';have hgl:w5.heap.size < g':=by simp at hgg;omega
       rw [zS (by show g'≠w5.heap.size;omega),zS (by show g'≠w5.heap.size;omega),zS (by show g'≠w5.heap.size;omega),zS (by show g'≠w5.heap.size;omega),zS (by show g'≠w5.heap.size;omega)]
    obtain ⟨q,rfl,hP,hql,hqn,j1,sa',n1,sc',la',n2,lc',hB,hR⟩:=hcut;have P6:=qD7 hP;have r0:=hB 0 _ rfl;have r1:=hB 1 _ rfl;have r2:=hB 2 _ rfl;have r3:=hB 3 _ rfl;have r4:=hB 4 _ rfl;clear hP hB P5 h0 h1 h2 h3 h4 hbl5 o0 o1 o2 o3 hol HEN;have o0:=qA1 P6.out.ab 0;have o1:=qA1 P6.out.ab 1;have o2:=qA1 P6.out.ab 2;have o3:=qA1 P6.out.ab 3;simp only [List.getElem?_toArray,List.getElem?_cons_zero,List.getElem?_cons_succ] at o0 o1 o2 o3;have hol:=P6.out.lt;have hol0:=Nat.lt_of_succ_lt P6.out.lt;have hon:w.heap.size≠w.heap.size+1:=by omega
    have z0:=P6.out.rs.1 0 _ rfl;have z1:=P6.out.rs.1 1 _ rfl;have z2:=P6.out.rs.1 2 _ rfl;have z3:=P6.out.rs.1 3 _ rfl;have f0:=P6.out.rs.2 0;have f1:=P6.out.rs.2 1;have f2:=P6.out.rs.2 2;have f3:=P6.out.rs.2 3;by_cases e0:e=0
    ·obtain ⟨hj,hn1,hn2,ho1,ho2⟩:=hR.resolve_left (fun q=>q e0);subst hj hn1 hn2
     have hpm:qD2 E xs (k+1)=some L:=by
      rw [<- HL0.out,<- HSS.out];exact QL8 HPL.out HXK.out (by rw [HSS.out,HE.out,e0]) (by rw [HSS.out];exact HT.out)
     have hts:xs.take (k+1)=S:=by
      rw [List.take_add_one,HXK.out,HSS.out];exact HS0.out
     have P7:Hid (PL w j1 sa' sc' la' lc' S L _):=P6.out.renew ho1 ho2;have HPM:=qD7 hpm;have HTS:=qD7 hts;have g0:=qL9 P6.out.ab 0;have g1:=qL9 P6.out.ab 1;have g2:=qL9 P6.out.ab 2;have g3:=qL9 P6.out.ab 3;have hqne:w.heap.size+1≠q:=by omega
     subst e0;clear hpm hts ho1 ho2 hR;go_wp2_with fail
     exact ⟨⟨k+1,L,sa',sc',la',lc',by omega,by go_num,HPM,by show PL _ _ _ _ _ _ _ _ _;rw [HTS.out];exact P7.out⟩,by simp [intOf];omega⟩
    ·have eb:(e != 0)=true:=by simp [e0]
     have hpn:qD2 E xs n=none:=qU7 (qZ4 HPL.out HXK.out (.inl (by rw [HSS.out,HE.out];exact e0))) (by omega);have HPN:=qD7 hpn;clear hpn hR;go_wp2_with fail
     refine bodyPost_ret (v:=.tuple #[.agg #[.int .i64 i,.int .i64 0,.slice sa ss.length sc,.slice la ls.length lc],.bool false]) (by simp [results,Tryz.results58,go_sem,z0,z1,z2,z3,hol0]) rfl ?_;refine ⟨((((P6.out.bl.setCell (Nat.le_refl _) _).setCell (Nat.le_refl _) _).setCell (Nat.le_refl _) _).setCell (Nat.le_refl _) _),fun q hq=>?_,fun _=>⟨_,_,_,_,_,_,rfl⟩⟩;rw [HPN.out] at hq;cases hq
   ·have hpn:qD2 E xs n=none:=qU7 (qZ4 HPL.out HXK.out (.inr (by rw [HSS.out];exact HT.out))) (by omega);have HPN:=qD7 hpn;clear hpn;have o0:=qA1 P5.out.ab 0;have o1:=qA1 P5.out.ab 1;have o2:=qA1 P5.out.ab 2;have o3:=qA1 P5.out.ab 3;simp only [List.getElem?_toArray,List.getElem?_cons_zero,List.getElem?_cons_succ] at o0 o1 o2 o3;have hol:=P5.out.lt;have hol0:=Nat.lt_of_succ_lt P5.out.lt;have hon:w.heap.size≠w.heap.size+1:=by omega
    have z0:=P5.out.rs.1 0 _ rfl;have z1:=P5.out.rs.1 1 _ rfl;have z2:=P5.out.rs.1 2 _ rfl;have z3:=P5.out.rs.1 3 _ rfl;have f0:=P5.out.rs.2 0;have f1:=P5.out.rs.2 1;have f2:=P5.out.rs.2 2;have f3:=P5.out.rs.2 3;go_wp2_with fail
    refine bodyPost_ret (v:=.tuple #[.agg #[.int .i64 i,.int .i64 0,.slice sa ss.length sc,.slice la ls.length lc],.bool false]) (by simp [results,Tryz.results58,go_sem,z0,z1,z2,z3,hol0]) rfl ?_;refine ⟨((((P5.out.bl.setCell (Nat.le_refl _) _).setCell (Nat.le_refl _) _).setCell (Nat.le_refl _) _).setCell (Nat.le_refl _) _),fun q hq=>?_,fun _=>⟨_,_,_,_,_,_,rfl⟩⟩;rw [HPN.out] at hq;cases hq
  ·have hkn:k=n:=by omega
   subst hkn;have htk:xs.take k=xs:=by rw [<- HXL.out];exact List.take_length
   rw [htk] at P4;have HXX:Hid (xs.length=k):=HXL;have o0:=qA1 P4.out.ab 0;have o1:=qA1 P4.out.ab 1;have o2:=qA1 P4.out.ab 2;have o3:=qA1 P4.out.ab 3;simp only [List.getElem?_toArray,List.getElem?_cons_zero,List.getElem?_cons_succ] at o0 o1 o2 o3;have hol:=P4.out.lt;have hol0:=Nat.lt_of_succ_lt P4.out.lt;have hon:w.heap.size≠w.heap.size+1:=by omega
   have z0:=P4.out.rs.1 0 _ rfl;have z1:=P4.out.rs.1 1 _ rfl;have z2:=P4.out.rs.1 2 _ rfl;have z3:=P4.out.rs.1 3 _ rfl;have f0:=P4.out.rs.2 0;have f1:=P4.out.rs.2 1;have f2:=P4.out.rs.2 2;have f3:=P4.out.rs.2 3;go_wp2_with fail
   refine bodyPost_ret (v:=.tuple #[.agg #[.int .i64 i,.int .i64 0,.slice sa xs.length sc,.slice la ls.length lc],.bool true]) (by simp [results,Tryz.results58,go_sem,z0,z1,z2,z3,hol0]) rfl ?_;refine ⟨((((P4.out.bl.setCell (Nat.le_refl _) _).setCell (Nat.le_refl _) _).setCell (Nat.le_refl _) _).setCell (Nat.le_refl _) _),fun q hq=>?_,fun hq=>?_⟩
   ·rw [HPL.out] at hq;cases hq;rw [<- HXX.out];refine ⟨sa,sc,la,lc,rfl,qC0 (qA0 P4.out.so (fun g e=>?_)) (by omega),qB0 (qA0 P4.out.lo (fun g e=>?_)) (by omega)⟩
    ·obtain ⟨cur,hcc,hgg⟩:=qC5 P4.out.so e;rw [zS (by show g≠w.heap.size;omega),zS (by show g≠w.heap.size;omega),zS (by show g≠w.heap.size;omega),zS (by show g≠w.heap.size;omega)]
    ·obtain ⟨cur,hcc,hgg⟩:=qC6 P4.out.lo e;rw [zS (by show g≠w.heap.size;omega),zS (by show g≠w.heap.size;omega),zS (by show g≠w.heap.size;omega),zS (by show g≠w.heap.size;omega)]
   ·rw [HPL.out] at hq;cases hq

section
theorem QH6 {z:Int} (h0:0<=z) (h1:z<=1000):IntKind.i64.wrap z=z:=by rw [IntKind.wrap_i64];omega
theorem qCE {w5:World} {B q:Nat} {la:Option Addr} {lc:Nat} {ls:List LkI} (h:qA7 w5 B (.slice la ls.length lc) ls) (hq:q < B) (v0 v1 v2 v3:Value):qK8 ((((w5.setCell ⟨q,0,none⟩ v0).setCell ⟨q,1,none⟩ v1).setCell ⟨q,2,none⟩ v2).setCell ⟨q,3,none⟩ v3) la ls.length ls:=by
 refine LkV.isIn rfl (qA7.view (B:=B) (cap:=lc) (qA0 h (fun g e=>?_)));obtain ⟨cur,hcc,hgg⟩:=qC6 h e;rw [zS (by show g≠q;omega),zS (by show g≠q;omega),zS (by show g≠q;omega),zS (by show g≠q;omega)]
attribute [local go_sem ↓] qEE
theorem qCf (E:qH1) (b:Nat) (r:qL4) (a:Option Addr) (m cap:Nat) (cs:List qA4) (w:World) (hb:qF8 w b r) (hr:qG1 w r) (hle:QC0 1048576 r) (hc:qA6 w a m cs) (hcl:qG0 1048576 cs) (hm:m<=1048576) (k:Int) (hk:qC4 cs=k) (hk0:k≠0) :
  Calls Tryz.prog 29 #[.pointer (some ⟨b,0,none⟩),.slice a m cap] w fun d w'=>d = .returned (.int .i64 k)/\Below w.heap.size w w':=by
 have hsn:=hle.said;have hln:=hle.locks;have hsn':(r.sn:Int)<=1048576:=by omega
 have hln':(r.ln:Int)<=1048576:=by omega
 have HCF:Hid (Calls Tryz.prog 56 #[.slice a m cap] w fun e w'=>e = .returned (.int .i64 k)/\Below w.heap.size w w'):=by show Calls _ _ _ _ _;rw [<- hk];exact qM4 a m cap cs w hm hcl hc
 have HB:Hid (∀ W,Below w.heap.size w W->qF8 W b r/\qG1 W r/\qA6 W a m cs):=fun W q=>⟨hb.below q,hr.below q,hc.below q⟩
 have hbl:b < w.heap.size:=hb.lt;have kb:(k != 0)=true:=by simp [hk0]
 clear hb hr hc hcl hk hle;go_enter Tryz.func29,Tryz.ntmps29;go_wp2_with fail
 refine HCF.out.mono ?_;rintro d w1 ⟨rfl,hb1⟩;have B1:=qD7 hb1;clear hb1 HCF;go_wp2_with fail
 go_ret;exact ⟨rfl,B1.out⟩
theorem qHV (E:qH1) (b:Nat) (r:qL4) (a:Option Addr) (m cap:Nat) (cs:List qA4) (w:World) (hb:qF8 w b r) (hr:qG1 w r) (hle:QC0 1048576 r) (hc:qA6 w a m cs) (hcl:qG0 1048576 cs) (hm:m<=1048576) (hk:qC4 cs=0) (h1':inR r.i 1 (3 * f0C cs+1)=false) :
  Calls Tryz.prog 29 #[.pointer (some ⟨b,0,none⟩),.slice a m cap] w fun d w'=>d = .returned (.int .i64 3)/\Below w.heap.size w w':=by
 have hsn:=hle.said;have hln:=hle.locks;have hsn':(r.sn:Int)<=1048576:=by omega
 have hln':(r.ln:Int)<=1048576:=by omega
 have HCF:Hid (Calls Tryz.prog 56 #[.slice a m cap] w fun e w'=>e = .returned (.int .i64 0)/\Below w.heap.size w w'):=by show Calls _ _ _ _ _;rw [<- hk];exact qM4 a m cap cs w hm hcl hc
 have HB:Hid (∀ W,Below w.heap.size w W->qF8 W b r/\qG1 W r/\qA6 W a m cs):=fun W q=>⟨hb.below q,hr.below q,hc.below q⟩
 have hbl:b < w.heap.size:=hb.lt;obtain ⟨hm1,hm8,hok⟩:=qT4 hk;have hml:cs.length=m:=hc.len;have hm0:0 < m:=by omega
 have hm0':(0:Int) < (m:Int):=by omega
 obtain ⟨g,off,c0,rfl,hc0,hat,_⟩:=hc.at hm0
 obtain ⟨v0,v1,v2,v3,v4⟩:=hat;simp only [Nat.zero_mul,Nat.add_zero] at v0 v1 v2 v3 v4;have hgl:g < w.heap.size:=zL w _ v0;have hf0:f0C cs=c0.f:=by unfold f0C;rw [hc0];rfl
 have hff:1<=c0.f/\c0.f<=2:=qHW (hok 0 c0 hc0).1;have hw1:IntKind.i64.wrap (3 * c0.f)=3 * c0.f:=QH6 (by omega) (by omega);have hw2:IntKind.i64.wrap (3 * c0.f+1)=3 * c0.f+1:=QH6 (by omega) (by omega);have V1:Hid (∀ W:World,Below w.heap.size w W->W.cell? ⟨g,off+1,none⟩=some (.int .i64 c0.f)):=fun W hb=>(hb.cell (p:=⟨g,off+1,none⟩) hgl).trans v1
 have h1:inR r.i 1 (3 * c0.f+1)=false:=by rw [<- hf0];exact h1'
 have HI1:Hid (∀ W:World,Calls Tryz.prog 57 #[.int .i64 r.i,.int .i64 1,.int .i64 (3 * c0.f+1)] W fun e w'=>e = .returned (.bool false)/\Below W.heap.size W w'):=fun W=>by
  have q:=qN4 r.i 1 (3 * c0.f+1) W;rw [show (decide (1<=r.i)&&decide (r.i<=3 * c0.f+1))=false from h1] at q;exact q.mono fun e w' h=>⟨h.1,by rw [<- h.2];exact Below.refl _ _⟩
 clear h1 h1' hf0;clear hok v0 v1 v2 v3 v4 hc0 hff hml;clear hb hr hc hcl hk hle;go_enter Tryz.func29,Tryz.ntmps29;go_wp2_with fail
 refine HCF.out.mono ?_;rintro d w1 ⟨rfl,hb1⟩;have B1:=qD7 hb1;clear hb1 HCF;obtain ⟨x0,x1,x2,x3⟩:=(HB.out _ B1.out).1;have y1:=V1.out _ B1.out;have hbl1:b < w1.heap.size:=Nat.lt_of_lt_of_le hbl B1.out.size;have hgl1:g < w1.heap.size:=Nat.lt_of_lt_of_le hgl B1.out.size;go_upto_region 4 with fail
 refine wp_region_held_drew (S:=fun w'=>(∀ b o,b < w1.heap.size->w'.cell? ⟨b,o,none⟩=w1.cell? ⟨b,o,none⟩)/\Below w1.heap.size w1 w') (by kernel_rfl) (qC1 _) (fun hHeld=>?_);refine Zk.go [0,1,2,3,4,5,6,7,8,9] ?_
 iterate 10
  refine Zk.st (v:=?_) rfl ?_ ?_;rotate_left 1
  ·intro w hSw;(try dsimp only at hSw);go_simp;try (with_reducible rfl)
  try simp only [Act.put,zA,zB,zC,zD,zE,zF]
 refine Zk.fin ?_;refine Zk.rd (i:=10) rfl (fun K hK=>?_);go_simp;refine (HI1.out _).mono ?_;rintro d w2 ⟨rfl,hb2⟩;have hS:=qA9 hHeld hb2;refine hK.out _ _ hS (fun hHeld=>?_);clear hK K;try simp only [Act.put,zA,zB,zC,zD,zE,zF]
 refine Zk.go [11,12,13,14,15,16,17,18,19,20,21,22,23,24] ?_
 iterate 2
  refine Zk.st (v:=?_) rfl ?_ ?_;rotate_left 1
  ·intro w hSw;(try dsimp only at hSw);go_simp;try (with_reducible rfl)
  try simp only [Act.put,zA,zB,zC,zD,zE,zF]
 iterate 11 (refine Zk.un rfl ?_;try simp only [Act.put,zA,zB,zC,zD,zE,zF])
 refine Zk.st (v:=?_) rfl ?_ ?_;rotate_left 1
 ·intro w hSw;(try dsimp only at hSw);go_simp;try (with_reducible rfl)
 try simp only [Act.put,zA,zB,zC,zD,zE,zF]
 refine Zk.fin ?_;refine wpAnyH_done (by kernel_rfl) ?_ _;go_wp2_with fail
 go_ret;exact ⟨rfl,B1.out.trans (hHeld.2.mono B1.out.size)⟩
theorem qCc (E:qH1) (b:Nat) (r:qL4) (a:Option Addr) (m cap:Nat) (cs:List qA4) (w:World) (hb:qF8 w b r) (hr:qG1 w r) (hle:QC0 1048576 r) (hc:qA6 w a m cs) (hcl:qG0 1048576 cs) (hm:m<=1048576) (hk:qC4 cs=0) (h1':inR r.i 1 (3 * f0C cs+1)=true) (h2:inR r.u 0 (r.sn:Int)=false) :
  Calls Tryz.prog 29 #[.pointer (some ⟨b,0,none⟩),.slice a m cap] w fun d w'=>d = .returned (.int .i64 3)/\Below w.heap.size w w':=by
 have hsn:=hle.said;have hln:=hle.locks;have hsn':(r.sn:Int)<=1048576:=by omega
 have hln':(r.ln:Int)<=1048576:=by omega
 have HCF:Hid (Calls Tryz.prog 56 #[.slice a m cap] w fun e w'=>e = .returned (.int .i64 0)/\Below w.heap.size w w'):=by show Calls _ _ _ _ _;rw [<- hk];exact qM4 a m cap cs w hm hcl hc
 have HB:Hid (∀ W,Below w.heap.size w W->qF8 W b r/\qG1 W r/\qA6 W a m cs):=fun W q=>⟨hb.below q,hr.below q,hc.below q⟩
 have hbl:b < w.heap.size:=hb.lt;obtain ⟨hm1,hm8,hok⟩:=qT4 hk;have hml:cs.length=m:=hc.len;have hm0:0 < m:=by omega
 have hm0':(0:Int) < (m:Int):=by omega
 obtain ⟨g,off,c0,rfl,hc0,hat,_⟩:=hc.at hm0
 obtain ⟨v0,v1,v2,v3,v4⟩:=hat;simp only [Nat.zero_mul,Nat.add_zero] at v0 v1 v2 v3 v4;have hgl:g < w.heap.size:=zL w _ v0;have hf0:f0C cs=c0.f:=by unfold f0C;rw [hc0];rfl
 have hff:1<=c0.f/\c0.f<=2:=qHW (hok 0 c0 hc0).1;have hw1:IntKind.i64.wrap (3 * c0.f)=3 * c0.f:=QH6 (by omega) (by omega);have hw2:IntKind.i64.wrap (3 * c0.f+1)=3 * c0.f+1:=QH6 (by omega) (by omega);have V1:Hid (∀ W:World,Below w.heap.size w W->W.cell? ⟨g,off+1,none⟩=some (.int .i64 c0.f)):=fun W hb=>(hb.cell (p:=⟨g,off+1,none⟩) hgl).trans v1
 have h1:inR r.i 1 (3 * c0.f+1)=true:=by rw [<- hf0];exact h1'
 have HI1:Hid (∀ W:World,Calls Tryz.prog 57 #[.int .i64 r.i,.int .i64 1,.int .i64 (3 * c0.f+1)] W fun e w'=>e = .returned (.bool true)/\Below W.heap.size W w'):=fun W=>by
  have q:=qN4 r.i 1 (3 * c0.f+1) W;rw [show (decide (1<=r.i)&&decide (r.i<=3 * c0.f+1))=true from h1] at q;exact q.mono fun e w' h=>⟨h.1,by rw [<- h.2];exact Below.refl _ _⟩
 have HI2:Hid (∀ W:World,Calls Tryz.prog 57 #[.int .i64 r.u,.int .i64 0,.int .i64 (r.sn:Int)] W fun e w'=>e = .returned (.bool false)/\Below W.heap.size W w'):=fun W=>by
  have q:=qN4 r.u 0 (r.sn:Int) W;rw [show (decide (0<=r.u)&&decide (r.u<=(r.sn:Int)))=false from h2] at q;exact q.mono fun e w' h=>⟨h.1,by rw [<- h.2];exact Below.refl _ _⟩
 clear h1 h1' h2 hf0;clear hok v0 v1 v2 v3 v4 hc0 hff hml;clear hb hr hc hcl hk hle;go_enter Tryz.func29,Tryz.ntmps29;go_wp2_with fail
 refine HCF.out.mono ?_;rintro d w1 ⟨rfl,hb1⟩;have B1:=qD7 hb1;clear hb1 HCF;obtain ⟨x0,x1,x2,x3⟩:=(HB.out _ B1.out).1;have y1:=V1.out _ B1.out;have hbl1:b < w1.heap.size:=Nat.lt_of_lt_of_le hbl B1.out.size;have hgl1:g < w1.heap.size:=Nat.lt_of_lt_of_le hgl B1.out.size;go_upto_region 4 with fail
 refine wp_region_held_drew (S:=fun w'=>(∀ b o,b < w1.heap.size->w'.cell? ⟨b,o,none⟩=w1.cell? ⟨b,o,none⟩)/\Below w1.heap.size w1 w') (by kernel_rfl) (qC1 _) (fun hHeld=>?_);refine Zk.go [0,1,2,3,4,5,6,7,8,9] ?_
 iterate 10
  refine Zk.st (v:=?_) rfl ?_ ?_;rotate_left 1
  ·intro w hSw;(try dsimp only at hSw);go_simp;try (with_reducible rfl)
  try simp only [Act.put,zA,zB,zC,zD,zE,zF]
 refine Zk.fin ?_;refine Zk.rd (i:=10) rfl (fun K hK=>?_);go_simp;refine (HI1.out _).mono ?_;rintro d w2 ⟨rfl,hb2⟩;have hS:=qA9 hHeld hb2;refine hK.out _ _ hS (fun hHeld=>?_);clear hK K;try simp only [Act.put,zA,zB,zC,zD,zE,zF]
 refine Zk.go [11,12,13,14,15,16,17,18,19,20,21] ?_
 iterate 11
  refine Zk.st (v:=?_) rfl ?_ ?_;rotate_left 1
  ·intro w hSw;(try dsimp only at hSw);go_simp;try (with_reducible rfl)
  try simp only [Act.put,zA,zB,zC,zD,zE,zF]
 refine Zk.fin ?_;refine Zk.rd (i:=22) rfl (fun K hK=>?_);go_simp;refine (HI2.out _).mono ?_;rintro d w3 ⟨rfl,hb3⟩;have hS:=qA9 hHeld hb3;refine hK.out _ _ hS (fun hHeld=>?_);clear hK K;try simp only [Act.put,zA,zB,zC,zD,zE,zF]
 refine Zk.go [23,24] ?_
 iterate 2
  refine Zk.st (v:=?_) rfl ?_ ?_;rotate_left 1
  ·intro w hSw;(try dsimp only at hSw);go_simp;try (with_reducible rfl)
  try simp only [Act.put,zA,zB,zC,zD,zE,zF]
 refine Zk.fin ?_;refine wpAnyH_done (by kernel_rfl) ?_ _;go_wp2_with fail
 go_ret;exact ⟨rfl,B1.out.trans (hHeld.2.mono B1.out.size)⟩
theorem qCe (E:qH1) (b:Nat) (r:qL4) (a:Option Addr) (m cap:Nat) (cs:List qA4) (w:World) (hb:qF8 w b r) (hr:qG1 w r) (hle:QC0 1048576 r) (hc:qA6 w a m cs) (hcl:qG0 1048576 cs) (hm:m<=1048576) (hk:qC4 cs=0) (h1':inR r.i 1 (3 * f0C cs+1)=true) (h2:inR r.u 0 (r.sn:Int)=true) (h40:40 < r.sn) :
  Calls Tryz.prog 29 #[.pointer (some ⟨b,0,none⟩),.slice a m cap] w fun d w'=>d = .returned (.int .i64 2)/\Below w.heap.size w w':=by
 have hsn:=hle.said;have hln:=hle.locks;have hsn':(r.sn:Int)<=1048576:=by omega
 have hln':(r.ln:Int)<=1048576:=by omega
 have HCF:Hid (Calls Tryz.prog 56 #[.slice a m cap] w fun e w'=>e = .returned (.int .i64 0)/\Below w.heap.size w w'):=by show Calls _ _ _ _ _;rw [<- hk];exact qM4 a m cap cs w hm hcl hc
 have HB:Hid (∀ W,Below w.heap.size w W->qF8 W b r/\qG1 W r/\qA6 W a m cs):=fun W q=>⟨hb.below q,hr.below q,hc.below q⟩
 have hbl:b < w.heap.size:=hb.lt;obtain ⟨hm1,hm8,hok⟩:=qT4 hk;have hml:cs.length=m:=hc.len;have hm0:0 < m:=by omega
 have hm0':(0:Int) < (m:Int):=by omega
 obtain ⟨g,off,c0,rfl,hc0,hat,_⟩:=hc.at hm0
 obtain ⟨v0,v1,v2,v3,v4⟩:=hat;simp only [Nat.zero_mul,Nat.add_zero] at v0 v1 v2 v3 v4;have hgl:g < w.heap.size:=zL w _ v0;have hf0:f0C cs=c0.f:=by unfold f0C;rw [hc0];rfl
 have hff:1<=c0.f/\c0.f<=2:=qHW (hok 0 c0 hc0).1;have hw1:IntKind.i64.wrap (3 * c0.f)=3 * c0.f:=QH6 (by omega) (by omega);have hw2:IntKind.i64.wrap (3 * c0.f+1)=3 * c0.f+1:=QH6 (by omega) (by omega);have V1:Hid (∀ W:World,Below w.heap.size w W->W.cell? ⟨g,off+1,none⟩=some (.int .i64 c0.f)):=fun W hb=>(hb.cell (p:=⟨g,off+1,none⟩) hgl).trans v1
 have h1:inR r.i 1 (3 * c0.f+1)=true:=by rw [<- hf0];exact h1'
 have HI1:Hid (∀ W:World,Calls Tryz.prog 57 #[.int .i64 r.i,.int .i64 1,.int .i64 (3 * c0.f+1)] W fun e w'=>e = .returned (.bool true)/\Below W.heap.size W w'):=fun W=>by
  have q:=qN4 r.i 1 (3 * c0.f+1) W;rw [show (decide (1<=r.i)&&decide (r.i<=3 * c0.f+1))=true from h1] at q;exact q.mono fun e w' h=>⟨h.1,by rw [<- h.2];exact Below.refl _ _⟩
 have HI2:Hid (∀ W:World,Calls Tryz.prog 57 #[.int .i64 r.u,.int .i64 0,.int .i64 (r.sn:Int)] W fun e w'=>e = .returned (.bool true)/\Below W.heap.size W w'):=fun W=>by
  have q:=qN4 r.u 0 (r.sn:Int) W;rw [show (decide (0<=r.u)&&decide (r.u<=(r.sn:Int)))=true from h2] at q;exact q.mono fun e w' h=>⟨h.1,by rw [<- h.2];exact Below.refl _ _⟩
 clear h1 h1' h2 hf0;have h40':(40:Int) < (r.sn:Int):=by omega
 clear hok v0 v1 v2 v3 v4 hc0 hff hml;clear hb hr hc hcl hk hle;go_enter Tryz.func29,Tryz.ntmps29;go_wp2_with fail
 refine HCF.out.mono ?_;rintro d w1 ⟨rfl,hb1⟩;have B1:=qD7 hb1;clear hb1 HCF;obtain ⟨x0,x1,x2,x3⟩:=(HB.out _ B1.out).1;have y1:=V1.out _ B1.out;have hbl1:b < w1.heap.size:=Nat.lt_of_lt_of_le hbl B1.out.size;have hgl1:g < w1.heap.size:=Nat.lt_of_lt_of_le hgl B1.out.size;go_upto_region 4 with fail
 refine wp_region_held_drew (S:=fun w'=>(∀ b o,b < w1.heap.size->w'.cell? ⟨b,o,none⟩=w1.cell? ⟨b,o,none⟩)/\Below w1.heap.size w1 w') (by kernel_rfl) (qC1 _) (fun hHeld=>?_);refine Zk.go [0,1,2,3,4,5,6,7,8,9] ?_
 iterate 10
  refine Zk.st (v:=?_) rfl ?_ ?_;rotate_left 1
  ·intro w hSw;(try dsimp only at hSw);go_simp;try (with_reducible rfl)
  try simp only [Act.put,zA,zB,zC,zD,zE,zF]
 refine Zk.fin ?_;refine Zk.rd (i:=10) rfl (fun K hK=>?_);go_simp;refine (HI1.out _).mono ?_;rintro d w2 ⟨rfl,hb2⟩;have hS:=qA9 hHeld hb2;refine hK.out _ _ hS (fun hHeld=>?_);clear hK K;try simp only [Act.put,zA,zB,zC,zD,zE,zF]
 refine Zk.go [11,12,13,14,15,16,17,18,19,20,21] ?_
 iterate 11
  refine Zk.st (v:=?_) rfl ?_ ?_;rotate_left 1
  ·intro w hSw;(try dsimp only at hSw);go_simp;try (with_reducible rfl)
  try simp only [Act.put,zA,zB,zC,zD,zE,zF]
 refine Zk.fin ?_;refine Zk.rd (i:=22) rfl (fun K hK=>?_);go_simp;refine (HI2.out _).mono ?_;rintro d w3 ⟨rfl,hb3⟩;have hS:=qA9 hHeld hb3;refine hK.out _ _ hS (fun hHeld=>?_);clear hK K;try simp only [Act.put,zA,zB,zC,zD,zE,zF]
 refine Zk.go [23,24] ?_
 iterate 2
  refine Zk.st (v:=?_) rfl ?_ ?_;rotate_left 1
  ·intro w hSw;(try dsimp only at hSw);go_simp;try (with_reducible rfl)
  try simp only [Act.put,zA,zB,zC,zD,zE,zF]
 refine Zk.fin ?_;refine wpAnyH_done (by kernel_rfl) ?_ _;have B4:Hid (Below w.heap.size w w3):=B1.out.trans (hHeld.2.mono B1.out.size);clear hHeld hS hb2 hb3 x0 x1 x2 x3 y1 hbl1 hgl1 B1 HI1 HI2;obtain ⟨x0,x1,x2,x3⟩:=(HB.out _ B4.out).1;have hbl3:b < w3.heap.size:=Nat.lt_of_lt_of_le hbl B4.out.size;go_wp2_with fail
 go_ret;exact ⟨rfl,B4.out⟩
theorem qCd (E:qH1) (b:Nat) (r:qL4) (a:Option Addr) (m cap:Nat) (cs:List qA4) (w:World) (hb:qF8 w b r) (hr:qG1 w r) (hle:QC0 1048576 r) (hc:qA6 w a m cs) (hcl:qG0 1048576 cs) (hm:m<=1048576) (hk:qC4 cs=0) (h1':inR r.i 1 (3 * f0C cs+1)=true) (h2:inR r.u 0 (r.sn:Int)=true) (hEC:qN7 E cs) (h40:r.sn<=40) (op:Option (List LkI)) (hop:qD2 E r.ss r.sn=op) (hno:op=none) :
  Calls Tryz.prog 29 #[.pointer (some ⟨b,0,none⟩),.slice a m cap] w fun d w'=>d = .returned (.int .i64 10)/\Below w.heap.size w w':=by
 have hsn:=hle.said;have hln:=hle.locks;have hsn':(r.sn:Int)<=1048576:=by omega
 have hln':(r.ln:Int)<=1048576:=by omega
 have HCF:Hid (Calls Tryz.prog 56 #[.slice a m cap] w fun e w'=>e = .returned (.int .i64 0)/\Below w.heap.size w w'):=by show Calls _ _ _ _ _;rw [<- hk];exact qM4 a m cap cs w hm hcl hc
 have HB:Hid (∀ W,Below w.heap.size w W->qF8 W b r/\qG1 W r/\qA6 W a m cs):=fun W q=>⟨hb.below q,hr.below q,hc.below q⟩
 have hbl:b < w.heap.size:=hb.lt;obtain ⟨hm1,hm8,hok⟩:=qT4 hk;have hml:cs.length=m:=hc.len;have hm0:0 < m:=by omega
 have hm0':(0:Int) < (m:Int):=by omega
 obtain ⟨g,off,c0,rfl,hc0,hat,_⟩:=hc.at hm0
 obtain ⟨v0,v1,v2,v3,v4⟩:=hat;simp only [Nat.zero_mul,Nat.add_zero] at v0 v1 v2 v3 v4;have hgl:g < w.heap.size:=zL w _ v0;have hf0:f0C cs=c0.f:=by unfold f0C;rw [hc0];rfl
 have hff:1<=c0.f/\c0.f<=2:=qHW (hok 0 c0 hc0).1;have hw1:IntKind.i64.wrap (3 * c0.f)=3 * c0.f:=QH6 (by omega) (by omega);have hw2:IntKind.i64.wrap (3 * c0.f+1)=3 * c0.f+1:=QH6 (by omega) (by omega);have V1:Hid (∀ W:World,Below w.heap.size w W->W.cell? ⟨g,off+1,none⟩=some (.int .i64 c0.f)):=fun W hb=>(hb.cell (p:=⟨g,off+1,none⟩) hgl).trans v1
 have h1:inR r.i 1 (3 * c0.f+1)=true:=by rw [<- hf0];exact h1'
 have HI1:Hid (∀ W:World,Calls Tryz.prog 57 #[.int .i64 r.i,.int .i64 1,.int .i64 (3 * c0.f+1)] W fun e w'=>e = .returned (.bool true)/\Below W.heap.size W w'):=fun W=>by
  have q:=qN4 r.i 1 (3 * c0.f+1) W;rw [show (decide (1<=r.i)&&decide (r.i<=3 * c0.f+1))=true from h1] at q;exact q.mono fun e w' h=>⟨h.1,by rw [<- h.2];exact Below.refl _ _⟩
 have HI2:Hid (∀ W:World,Calls Tryz.prog 57 #[.int .i64 r.u,.int .i64 0,.int .i64 (r.sn:Int)] W fun e w'=>e = .returned (.bool true)/\Below W.heap.size W w'):=fun W=>by
  have q:=qN4 r.u 0 (r.sn:Int) W;rw [show (decide (0<=r.u)&&decide (r.u<=(r.sn:Int)))=true from h2] at q;exact q.mono fun e w' h=>⟨h.1,by rw [<- h.2];exact Below.refl _ _⟩
 clear h1 h1' h2 hf0;have h40':(r.sn:Int)<=40:=by omega
 have HPY:Hid (∀ W:World,Below w.heap.size w W->Calls Tryz.prog 58 #[.int .i64 r.i,.slice (some ⟨g,off,none⟩) m cap,.slice r.sa r.sn r.sc] W fun d w'=>∃ (sa:Option Addr) (sn sc:Nat) (la:Option Addr) (ln lc:Nat),d = .returned (.tuple #[.agg #[.int .i64 r.i,.int .i64 0,.slice sa sn sc,.slice la ln lc],.bool false])/\Below W.heap.size W w'/\(∀ ls,op=some ls->ln=ls.length/\qA7 w' (W.heap.size+1) (.slice la ls.length lc) ls)):=fun W hb=>by
  refine (QW7 E r.i _ m cap cs r.sa r.sn r.sc r.ss W hEC (hc.below hb) hm0 (by omega) (hr.said.below hb) hsn).mono ?_;rintro d w' ⟨g1,g2,g3⟩;rw [hop] at g2 g3;obtain ⟨sa,sn,sc,la,ln,lc,rfl⟩:=g3 hno;exact ⟨sa,sn,sc,la,ln,lc,rfl,g1,fun ls e=>by rw [hno] at e;cases e⟩
 clear hop;clear hEC;clear hok v0 v1 v2 v3 v4 hc0 hff hml;clear hb hr hc hcl hk hle;go_enter Tryz.func29,Tryz.ntmps29;go_wp2_with fail
 refine HCF.out.mono ?_;rintro d w1 ⟨rfl,hb1⟩;have B1:=qD7 hb1;clear hb1 HCF;obtain ⟨x0,x1,x2,x3⟩:=(HB.out _ B1.out).1;have y1:=V1.out _ B1.out;have hbl1:b < w1.heap.size:=Nat.lt_of_lt_of_le hbl B1.out.size;have hgl1:g < w1.heap.size:=Nat.lt_of_lt_of_le hgl B1.out.size;go_upto_region 4 with fail
 refine wp_region_held_drew (S:=fun w'=>(∀ b o,b < w1.heap.size->w'.cell? ⟨b,o,none⟩=w1.cell? ⟨b,o,none⟩)/\Below w1.heap.size w1 w') (by kernel_rfl) (qC1 _) (fun hHeld=>?_);refine Zk.go [0,1,2,3,4,5,6,7,8,9] ?_
 iterate 10
  refine Zk.st (v:=?_) rfl ?_ ?_;rotate_left 1
  ·intro w hSw;(try dsimp only at hSw);go_simp;try (with_reducible rfl)
  try simp only [Act.put,zA,zB,zC,zD,zE,zF]
 refine Zk.fin ?_;refine Zk.rd (i:=10) rfl (fun K hK=>?_);go_simp;refine (HI1.out _).mono ?_;rintro d w2 ⟨rfl,hb2⟩;have hS:=qA9 hHeld hb2;refine hK.out _ _ hS (fun hHeld=>?_);clear hK K;try simp only [Act.put,zA,zB,zC,zD,zE,zF]
 refine Zk.go [11,12,13,14,15,16,17,18,19,20,21] ?_
 iterate 11
  refine Zk.st (v:=?_) rfl ?_ ?_;rotate_left 1
  ·intro w hSw;(try dsimp only at hSw);go_simp;try (with_reducible rfl)
  try simp only [Act.put,zA,zB,zC,zD,zE,zF]
 refine Zk.fin ?_;refine Zk.rd (i:=22) rfl (fun K hK=>?_);go_simp;refine (HI2.out _).mono ?_;rintro d w3 ⟨rfl,hb3⟩;have hS:=qA9 hHeld hb3;refine hK.out _ _ hS (fun hHeld=>?_);clear hK K;try simp only [Act.put,zA,zB,zC,zD,zE,zF]
 refine Zk.go [23,24] ?_
 iterate 2
  refine Zk.st (v:=?_) rfl ?_ ?_;rotate_left 1
  ·intro w hSw;(try dsimp only at hSw);go_simp;try (with_reducible rfl)
  try simp only [Act.put,zA,zB,zC,zD,zE,zF]
 refine Zk.fin ?_;refine wpAnyH_done (by kernel_rfl) ?_ _;have B4:Hid (Below w.heap.size w w3):=B1.out.trans (hHeld.2.mono B1.out.size);clear hHeld hS hb2 hb3 x0 x1 x2 x3 y1 hbl1 hgl1 B1 HI1 HI2;obtain ⟨x0,x1,x2,x3⟩:=(HB.out _ B4.out).1;have hbl3:b < w3.heap.size:=Nat.lt_of_lt_of_le hbl B4.out.size;go_upto_region 8 with fail
 go_cut [6,7] from 46 to 57 (fun s6 s7 W=>s7 = .bool false/\∃ (q:Nat) (sa:Option Addr) (sn sc:Nat) (la:Option Addr) (ln lc:Nat),s6 = .pointer (some ⟨q,0,none⟩)/\qV9 q [.int .i64 r.i,.int .i64 0,.slice sa sn sc,.slice la ln lc] W/\q < W.heap.size/\Below w.heap.size w W/\(∀ ls,op=some ls->qK8 W la ln ls))
 case first =>
  refine wp_region_held_drew (S:=fun w'=>(∀ b o,b < w3.heap.size->w'.cell? ⟨b,o,none⟩=w3.cell? ⟨b,o,none⟩)/\Below w3.heap.size w3 w') (by kernel_rfl) (qC1 _) (fun hHeld=>?_);refine Zk.go [0,1,2,3,4,5,6,7,8] ?_
  iterate 9
   refine Zk.st (v:=?_) rfl ?_ ?_;rotate_left 1
   ·intro w hSw;(try dsimp only at hSw);go_simp;try (with_reducible rfl)
   try simp only [Act.put,zA,zB,zC,zD,zE,zF]
  refine Zk.fin ?_;refine wpAnyH_ready (rs:=[9,13]) (by kernel_rfl) (by simp) ?_;refine AllReadyH.cons rfl (fun K hK=>?_) (AllReadyH.cons rfl (fun K hK=>?_) AllReadyH.nil)
  ·go_simp;refine (HPY.out _ (B4.out.trans (hHeld.2.mono B4.out.size))).mono ?_;rintro d w5 ⟨sa,sn,sc,la,ln,lc,rfl,hb5,hR⟩;have hS:=qA9 hHeld hb5;have hs5:=hb5.size;have hS5:=qD7 hS.2;have HRR:=qD7 hR;clear hR;have hs5':w3.heap.size<=w5.heap.size:=hs5;refine hK.out _ _ hS (fun hHeld=>?_);clear hK K;try simp only [Act.put,zA,zB,zC,zD,zE,zF]
   refine Zk.go [10,11,12] ?_
   iterate 3
    refine Zk.st (v:=?_) rfl ?_ ?_;rotate_left 1
    ·intro w hSw;(try dsimp only at hSw);go_simp;try (with_reducible rfl)
    try simp only [Act.put,zA,zB,zC,zD,zE,zF]
   refine Zk.fin ?_;refine Zk.rd (i:=13) rfl (fun K hK=>?_);go_simp;have hS:=kpN (hHeld.2.alloc hHeld.2.size (.cells #[.int .i64 0,.int .i64 0,.slice none 0 0,.slice none 0 0] 36));refine hK.out _ _ hS (fun hHeld=>?_);clear hK K;try simp only [Act.put,zA,zB,zC,zD,zE,zF]
   refine Zk.rd (i:=14) rfl (fun K hK=>?_);go_simp;have hS:=kpN (hS5.out.alloc hS5.out.size (.cells #[.int .i64 r.i,.int .i64 0,.slice sa sn sc,.slice la ln lc] 36));refine hK.out _ _ hS (fun hHeld=>?_);clear hK K;try simp only [Act.put,zA,zB,zC,zD,zE,zF]
   refine Zk.rd (i:=15) rfl (fun K hK=>?_);go_simp;refine hK.out _ _ (by assumption) (fun hHeld=>?_);clear hK K;try simp only [Act.put,zA,zB,zC,zD,zE,zF]
   refine wpAnyH_done (by kernel_rfl) ?_ _;go_wp2_with fail
   go_meet
   have AA:Below w5.heap.size w5 (w5.alloc (.cells #[.int .i64 r.i,.int .i64 0,.slice sa sn sc,.slice la ln lc] 36)):=zN;exact ⟨rfl,w5.heap.size,sa,sn,sc,la,ln,lc,rfl,(qE6 w5 _ _).out,by simp,B4.out.trans (hS.2.mono B4.out.size),fun ls' e=>by obtain ⟨h1,h2⟩:=HRR.out ls' e;subst h1;exact LkV.isIn rfl (h2.below AA).view⟩
  ·go_simp;have hS:=kpN (hHeld.2.alloc hHeld.2.size (.cells #[.int .i64 0,.int .i64 0,.slice none 0 0,.slice none 0 0] 36));refine hK.out _ _ hS (fun hHeld=>?_);clear hK K;try simp only [Act.put,zA,zB,zC,zD,zE,zF]
   refine Zk.rd (i:=9) rfl (fun K hK=>?_);go_simp;refine (HPY.out _ (B4.out.trans (hHeld.2.mono B4.out.size))).mono ?_;rintro d w5 ⟨sa,sn,sc,la,ln,lc,rfl,hb5,hR⟩;have hS:=qA9 hHeld hb5;have hs5:=hb5.size;have hS5:=qD7 hS.2;have HRR:=qD7 hR;clear hR;have hs5':w3.heap.size+1<=w5.heap.size:=by simpa using hs5
   have XQ:qH0 w3.heap.size [.int .i64 0,.int .i64 0,.slice none 0 0,.slice none 0 0] w5:=qH0.below (qG7 w3.drew _ _) (by simp) hb5;have z0:=XQ.1 0 _ rfl;have z1:=XQ.1 1 _ rfl;have z2:=XQ.1 2 _ rfl;have z3:=XQ.1 3 _ rfl;have f0:=XQ.2 0;have f1:=XQ.2 1;have f2:=XQ.2 2;have f3:=XQ.2 3;have hql:w3.heap.size < w5.heap.size:=hs5';refine hK.out _ _ hS (fun hHeld=>?_);clear hK K;try simp only [Act.put,zA,zB,zC,zD,zE,zF]
   refine Zk.go [10,11,12] ?_
   iterate 3
    refine Zk.st (v:=?_) rfl ?_ ?_;rotate_left 1
    ·intro w hSw;(try dsimp only at hSw);go_simp;try (with_reducible rfl)
    try simp only [Act.put,zA,zB,zC,zD,zE,zF]
   refine Zk.fin ?_;refine Zk.rd (i:=14) rfl (fun K hK=>?_);go_simp;have hS:=kpN ((((hHeld.2.setCell (p:=⟨w3.heap.size,0,none⟩) (Nat.le_refl _) (.int .i64 r.i)).setCell (p:=⟨w3.heap.size,1,none⟩) (Nat.le_refl _) (.int .i64 0)).setCell (p:=⟨w3.heap.size,2,none⟩) (Nat.le_refl _) (.slice sa sn sc)).setCell (p:=⟨w3.heap.size,3,none⟩) (Nat.le_refl _) (.slice la ln lc));refine hK.out _ _ hS (fun hHeld=>?_);clear hK K;try simp only [Act.put,zA,zB,zC,zD,zE,zF]
   refine Zk.rd (i:=15) rfl (fun K hK=>?_);go_simp;refine hK.out _ _ (by assumption) (fun hHeld=>?_);clear hK K;try simp only [Act.put,zA,zB,zC,zD,zE,zF]
   refine wpAnyH_done (by kernel_rfl) ?_ _;go_wp2_with fail
   go_meet
   exact ⟨rfl,w3.heap.size,sa,sn,sc,la,ln,lc,rfl,((((XQ.put 0 (by simp) _).put 1 (by simp) _).put 2 (by simp) _).put 3 (by simp) _).1,by simpa using hql,B4.out.trans (hS.2.mono B4.out.size),fun ls' e=>by obtain ⟨h1,h2⟩:=HRR.out ls' e;subst h1;exact qCE h2 (by first | (simp;omega) | simp) _ _ _ _⟩
 clear x0 x1 x2 x3 hbl3 B4 HPY;obtain ⟨rfl,q,sa,sn,sc,la,ln,lc,rfl,hQ,hql,hBq,hLq⟩:=hcut;have B5:=qD7 hBq;have q3:=hQ 3 _ rfl;obtain ⟨x0,x1,x2,x3⟩:=(HB.out _ B5.out).1;have hbl5:b < wc.heap.size:=Nat.lt_of_lt_of_le hbl B5.out.size;go_upto_region 9 with fail
 go_quiet (fail)
 go_wp2_with fail
 go_ret;exact ⟨rfl,bdN B5.out _⟩
theorem qFO (E:qH1) (b:Nat) (r:qL4) (a:Option Addr) (m cap:Nat) (cs:List qA4) (w:World) (hb:qF8 w b r) (hr:qG1 w r) (hle:QC0 1048576 r) (hc:qA6 w a m cs) (hcl:qG0 1048576 cs) (hm:m<=1048576) (hk:qC4 cs=0) (h1':inR r.i 1 (3 * f0C cs+1)=true) (h2:inR r.u 0 (r.sn:Int)=true) (hEC:qN7 E cs) (h40:r.sn<=40) (op:Option (List LkI)) (hop:qD2 E r.ss r.sn=op) (ls:List LkI) (hso:op=some ls) (hll:ls.length<=1048576) (hne:ls.length≠r.ln) :
  Calls Tryz.prog 29 #[.pointer (some ⟨b,0,none⟩),.slice a m cap] w fun d w'=>d = .returned (.int .i64 10)/\Below w.heap.size w w':=by
 have hsn:=hle.said;have hln:=hle.locks;have hsn':(r.sn:Int)<=1048576:=by omega
 have hln':(r.ln:Int)<=1048576:=by omega
 have HCF:Hid (Calls Tryz.prog 56 #[.slice a m cap] w fun e w'=>e = .returned (.int .i64 0)/\Below w.heap.size w w'):=by show Calls _ _ _ _ _;rw [<- hk];exact qM4 a m cap cs w hm hcl hc
 have HB:Hid (∀ W,Below w.heap.size w W->qF8 W b r/\qG1 W r/\qA6 W a m cs):=fun W q=>⟨hb.below q,hr.below q,hc.below q⟩
 have hbl:b < w.heap.size:=hb.lt;obtain ⟨hm1,hm8,hok⟩:=qT4 hk;have hml:cs.length=m:=hc.len;have hm0:0 < m:=by omega
 have hm0':(0:Int) < (m:Int):=by omega
 obtain ⟨g,off,c0,rfl,hc0,hat,_⟩:=hc.at hm0
 obtain ⟨v0,v1,v2,v3,v4⟩:=hat;simp only [Nat.zero_mul,Nat.add_zero] at v0 v1 v2 v3 v4;have hgl:g < w.heap.size:=zL w _ v0;have hf0:f0C cs=c0.f:=by unfold f0C;rw [hc0];rfl
 have hff:1<=c0.f/\c0.f<=2:=qHW (hok 0 c0 hc0).1;have hw1:IntKind.i64.wrap (3 * c0.f)=3 * c0.f:=QH6 (by omega) (by omega);have hw2:IntKind.i64.wrap (3 * c0.f+1)=3 * c0.f+1:=QH6 (by omega) (by omega);have V1:Hid (∀ W:World,Below w.heap.size w W->W.cell? ⟨g,off+1,none⟩=some (.int .i64 c0.f)):=fun W hb=>(hb.cell (p:=⟨g,off+1,none⟩) hgl).trans v1
 have h1:inR r.i 1 (3 * c0.f+1)=true:=by rw [<- hf0];exact h1'
 have HI1:Hid (∀ W:World,Calls Tryz.prog 57 #[.int .i64 r.i,.int .i64 1,.int .i64 (3 * c0.f+1)] W fun e w'=>e = .returned (.bool true)/\Below W.heap.size W w'):=fun W=>by
  have q:=qN4 r.i 1 (3 * c0.f+1) W;rw [show (decide (1<=r.i)&&decide (r.i<=3 * c0.f+1))=true from h1] at q;exact q.mono fun e w' h=>⟨h.1,by rw [<- h.2];exact Below.refl _ _⟩
 have HI2:Hid (∀ W:World,Calls Tryz.prog 57 #[.int .i64 r.u,.int .i64 0,.int .i64 (r.sn:Int)] W fun e w'=>e = .returned (.bool true)/\Below W.heap.size W w'):=fun W=>by
  have q:=qN4 r.u 0 (r.sn:Int) W;rw [show (decide (0<=r.u)&&decide (r.u<=(r.sn:Int)))=true from h2] at q;exact q.mono fun e w' h=>⟨h.1,by rw [<- h.2];exact Below.refl _ _⟩
 clear h1 h1' h2 hf0;have h40':(r.sn:Int)<=40:=by omega
 have HPY:Hid (∀ W:World,Below w.heap.size w W->Calls Tryz.prog 58 #[.int .i64 r.i,.slice (some ⟨g,off,none⟩) m cap,.slice r.sa r.sn r.sc] W fun d w'=>∃ (sa:Option Addr) (sn sc:Nat) (la:Option Addr) (ln lc:Nat),d = .returned (.tuple #[.agg #[.int .i64 r.i,.int .i64 0,.slice sa sn sc,.slice la ln lc],.bool true])/\Below W.heap.size W w'/\(∀ ls,op=some ls->ln=ls.length/\qA7 w' (W.heap.size+1) (.slice la ls.length lc) ls)):=fun W hb=>by
  refine (QW7 E r.i _ m cap cs r.sa r.sn r.sc r.ss W hEC (hc.below hb) hm0 (by omega) (hr.said.below hb) hsn).mono ?_;rintro d w' ⟨g1,g2,g3⟩;rw [hop] at g2 g3;obtain ⟨sa,sc,la,lc,rfl,_,ho2⟩:=g2 ls hso;exact ⟨sa,r.sn,sc,la,ls.length,lc,rfl,g1,fun ls' e=>by rw [hso] at e;cases e;exact ⟨rfl,ho2⟩⟩
 clear hop;clear hEC;clear hok v0 v1 v2 v3 v4 hc0 hff hml;clear hb hr hc hcl hk hle;go_enter Tryz.func29,Tryz.ntmps29;go_wp2_with fail
 refine HCF.out.mono ?_;rintro d w1 ⟨rfl,hb1⟩;have B1:=qD7 hb1;clear hb1 HCF;obtain ⟨x0,x1,x2,x3⟩:=(HB.out _ B1.out).1;have y1:=V1.out _ B1.out;have hbl1:b < w1.heap.size:=Nat.lt_of_lt_of_le hbl B1.out.size;have hgl1:g < w1.heap.size:=Nat.lt_of_lt_of_le hgl B1.out.size;go_upto_region 4 with fail
 refine wp_region_held_drew (S:=fun w'=>(∀ b o,b < w1.heap.size->w'.cell? ⟨b,o,none⟩=w1.cell? ⟨b,o,none⟩)/\Below w1.heap.size w1 w') (by kernel_rfl) (qC1 _) (fun hHeld=>?_);refine Zk.go [0,1,2,3,4,5,6,7,8,9] ?_
 iterate 10
  refine Zk.st (v:=?_) rfl ?_ ?_;rotate_left 1
  ·intro w hSw;(try dsimp only at hSw);go_simp;try (with_reducible rfl)
  try simp only [Act.put,zA,zB,zC,zD,zE,zF]
 refine Zk.fin ?_;refine Zk.rd (i:=10) rfl (fun K hK=>?_);go_simp;refine (HI1.out _).mono ?_;rintro d w2 ⟨rfl,hb2⟩;have hS:=qA9 hHeld hb2;refine hK.out _ _ hS (fun hHeld=>?_);clear hK K;try simp only [Act.put,zA,zB,zC,zD,zE,zF]
 refine Zk.go [11,12,13,14,15,16,17,18,19,20,21] ?_
 iterate 11
  refine Zk.st (v:=?_) rfl ?_ ?_;rotate_left 1
  ·intro w hSw;(try dsimp only at hSw);go_simp;try (with_reducible rfl)
  try simp only [Act.put,zA,zB,zC,zD,zE,zF]
 refine Zk.fin ?_;refine Zk.rd (i:=22) rfl (fun K hK=>?_);go_simp;refine (HI2.out _).mono ?_;rintro d w3 ⟨rfl,hb3⟩;have hS:=qA9 hHeld hb3;refine hK.out _ _ hS (fun hHeld=>?_);clear hK K;try simp only [Act.put,zA,zB,zC,zD,zE,zF]
 refine Zk.go [23,24] ?_
 iterate 2
  refine Zk.st (v:=?_) rfl ?_ ?_;rotate_left 1
  ·intro w hSw;(try dsimp only at hSw);go_simp;try (with_reducible rfl)
  try simp only [Act.put,zA,zB,zC,zD,zE,zF]
 refine Zk.fin ?_;refine wpAnyH_done (by kernel_rfl) ?_ _;have B4:Hid (Below w.heap.size w w3):=B1.out.trans (hHeld.2.mono B1.out.size);clear hHeld hS hb2 hb3 x0 x1 x2 x3 y1 hbl1 hgl1 B1 HI1 HI2;obtain ⟨x0,x1,x2,x3⟩:=(HB.out _ B4.out).1;have hbl3:b < w3.heap.size:=Nat.lt_of_lt_of_le hbl B4.out.size;go_upto_region 8 with fail
 go_cut [6,7] from 46 to 57 (fun s6 s7 W=>s7 = .bool true/\∃ (q:Nat) (sa:Option Addr) (sn sc:Nat) (la:Option Addr) (ln lc:Nat),s6 = .pointer (some ⟨q,0,none⟩)/\qV9 q [.int .i64 r.i,.int .i64 0,.slice sa sn sc,.slice la ln lc] W/\q < W.heap.size/\Below w.heap.size w W/\(∀ ls,op=some ls->qK8 W la ln ls))
 case first =>
  refine wp_region_held_drew (S:=fun w'=>(∀ b o,b < w3.heap.size->w'.cell? ⟨b,o,none⟩=w3.cell? ⟨b,o,none⟩)/\Below w3.heap.size w3 w') (by kernel_rfl) (qC1 _) (fun hHeld=>?_);refine Zk.go [0,1,2,3,4,5,6,7,8] ?_
  iterate 9
   refine Zk.st (v:=?_) rfl ?_ ?_;rotate_left 1
   ·intro w hSw;(try dsimp only at hSw);go_simp;try (with_reducible rfl)
   try simp only [Act.put,zA,zB,zC,zD,zE,zF]
  refine Zk.fin ?_;refine wpAnyH_ready (rs:=[9,13]) (by kernel_rfl) (by simp) ?_;refine AllReadyH.cons rfl (fun K hK=>?_) (AllReadyH.cons rfl (fun K hK=>?_) AllReadyH.nil)
  ·go_simp;refine (HPY.out _ (B4.out.trans (hHeld.2.mono B4.out.size))).mono ?_;rintro d w5 ⟨sa,sn,sc,la,ln,lc,rfl,hb5,hR⟩;have hS:=qA9 hHeld hb5;have hs5:=hb5.size;have hS5:=qD7 hS.2;have HRR:=qD7 hR;clear hR;have hs5':w3.heap.size<=w5.heap.size:=hs5;refine hK.out _ _ hS (fun hHeld=>?_);clear hK K;try simp only [Act.put,zA,zB,zC,zD,zE,zF]
   refine Zk.go [10,11,12] ?_
   iterate 3
    refine Zk.st (v:=?_) rfl ?_ ?_;rotate_left 1
    ·intro w hSw;(try dsimp only at hSw);go_simp;try (with_reducible rfl)
    try simp only [Act.put,zA,zB,zC,zD,zE,zF]
   refine Zk.fin ?_;refine Zk.rd (i:=13) rfl (fun K hK=>?_);go_simp;have hS:=kpN (hHeld.2.alloc hHeld.2.size (.cells #[.int .i64 0,.int .i64 0,.slice none 0 0,.slice none 0 0] 36));refine hK.out _ _ hS (fun hHeld=>?_);clear hK K;try simp only [Act.put,zA,zB,zC,zD,zE,zF]
   refine Zk.rd (i:=14) rfl (fun K hK=>?_);go_simp;have hS:=kpN (hS5.out.alloc hS5.out.size (.cells #[.int .i64 r.i,.int .i64 0,.slice sa sn sc,.slice la ln lc] 36));refine hK.out _ _ hS (fun hHeld=>?_);clear hK K;try simp only [Act.put,zA,zB,zC,zD,zE,zF]
   refine Zk.rd (i:=15) rfl (fun K hK=>?_);go_simp;refine hK.out _ _ (by assumption) (fun hHeld=>?_);clear hK K;try simp only [Act.put,zA,zB,zC,zD,zE,zF]
   refine wpAnyH_done (by kernel_rfl) ?_ _;go_wp2_with fail
   go_meet
   have AA:Below w5.heap.size w5 (w5.alloc (.cells #[.int .i64 r.i,.int .i64 0,.slice sa sn sc,.slice la ln lc] 36)):=zN;exact ⟨rfl,w5.heap.size,sa,sn,sc,la,ln,lc,rfl,(qE6 w5 _ _).out,by simp,B4.out.trans (hS.2.mono B4.out.size),fun ls' e=>by obtain ⟨h1,h2⟩:=HRR.out ls' e;subst h1;exact LkV.isIn rfl (h2.below AA).view⟩
  ·go_simp;have hS:=kpN (hHeld.2.alloc hHeld.2.size (.cells #[.int .i64 0,.int .i64 0,.slice none 0 0,.slice none 0 0] 36));refine hK.out _ _ hS (fun hHeld=>?_);clear hK K;try simp only [Act.put,zA,zB,zC,zD,zE,zF]
   refine Zk.rd (i:=9) rfl (fun K hK=>?_);go_simp;refine (HPY.out _ (B4.out.trans (hHeld.2.mono B4.out.size))).mono ?_;rintro d w5 ⟨sa,sn,sc,la,ln,lc,rfl,hb5,hR⟩;have hS:=qA9 hHeld hb5;have hs5:=hb5.size;have hS5:=qD7 hS.2;have HRR:=qD7 hR;clear hR;have hs5':w3.heap.size+1<=w5.heap.size:=by simpa using hs5
   have XQ:qH0 w3.heap.size [.int .i64 0,.int .i64 0,.slice none 0 0,.slice none 0 0] w5:=qH0.below (qG7 w3.drew _ _) (by simp) hb5;have z0:=XQ.1 0 _ rfl;have z1:=XQ.1 1 _ rfl;have z2:=XQ.1 2 _ rfl;have z3:=XQ.1 3 _ rfl;have f0:=XQ.2 0;have f1:=XQ.2 1;have f2:=XQ.2 2;have f3:=XQ.2 3;have hql:w3.heap.size < w5.heap.size:=hs5';refine hK.out _ _ hS (fun hHeld=>?_);clear hK K;try simp only [Act.put,zA,zB,zC,zD,zE,zF]
   refine Zk.go [10,11,12] ?_
   iterate 3
    refine Zk.st (v:=?_) rfl ?_ ?_;rotate_left 1
    ·intro w hSw;(try dsimp only at hSw);go_simp;try (with_reducible rfl)
    try simp only [Act.put,zA,zB,zC,zD,zE,zF]
   refine Zk.fin ?_;refine Zk.rd (i:=14) rfl (fun K hK=>?_);go_simp;have hS:=kpN ((((hHeld.2.setCell (p:=⟨w3.heap.size,0,none⟩) (Nat.le_refl _) (.int .i64 r.i)).setCell (p:=⟨w3.heap.size,1,none⟩) (Nat.le_refl _) (.int .i64 0)).setCell (p:=⟨w3.heap.size,2,none⟩) (Nat.le_refl _) (.slice sa sn sc)).setCell (p:=⟨w3.heap.size,3,none⟩) (Nat.le_refl _) (.slice la ln lc));refine hK.out _ _ hS (fun hHeld=>?_);clear hK K;try simp only [Act.put,zA,zB,zC,zD,zE,zF]
   refine Zk.rd (i:=15) rfl (fun K hK=>?_);go_simp;refine hK.out _ _ (by assumption) (fun hHeld=>?_);clear hK K;try simp only [Act.put,zA,zB,zC,zD,zE,zF]
   refine wpAnyH_done (by kernel_rfl) ?_ _;go_wp2_with fail
   go_meet
   exact ⟨rfl,w3.heap.size,sa,sn,sc,la,ln,lc,rfl,((((XQ.put 0 (by simp) _).put 1 (by simp) _).put 2 (by simp) _).put 3 (by simp) _).1,by simpa using hql,B4.out.trans (hS.2.mono B4.out.size),fun ls' e=>by obtain ⟨h1,h2⟩:=HRR.out ls' e;subst h1;exact qCE h2 (by first | (simp;omega) | simp) _ _ _ _⟩
 clear x0 x1 x2 x3 hbl3 B4 HPY;obtain ⟨rfl,q,sa,sn,sc,la,ln,lc,rfl,hQ,hql,hBq,hLq⟩:=hcut;have B5:=qD7 hBq;have q3:=hQ 3 _ rfl;obtain ⟨x0,x1,x2,x3⟩:=(HB.out _ B5.out).1;have hbl5:b < wc.heap.size:=Nat.lt_of_lt_of_le hbl B5.out.size;obtain rfl:ls.length=ln:=(hLq ls hso).1;have hnb:((ls.length:Int) != (r.ln:Int))=true:=by simp;omega
 go_upto_region 9 with fail
 go_quiet (fail)
 go_wp2_with fail
 go_ret;exact ⟨rfl,bdN B5.out _⟩
theorem qFP (E:qH1) (b:Nat) (r:qL4) (a:Option Addr) (m cap:Nat) (cs:List qA4) (w:World) (hb:qF8 w b r) (hr:qG1 w r) (hle:QC0 1048576 r) (hc:qA6 w a m cs) (hcl:qG0 1048576 cs) (hm:m<=1048576) (hk:qC4 cs=0) (h1':inR r.i 1 (3 * f0C cs+1)=true) (h2:inR r.u 0 (r.sn:Int)=true) (hEC:qN7 E cs) (h40:r.sn<=40) (op:Option (List LkI)) (hop:qD2 E r.ss r.sn=op) (ls:List LkI) (hso:op=some ls) (hll:ls.length<=1048576) (heq:ls.length=r.ln) (t:Int) (ht:(if ls=r.ls then 0 else 10)=t) :
  Calls Tryz.prog 29 #[.pointer (some ⟨b,0,none⟩),.slice a m cap] w fun d w'=>d = .returned (.int .i64 t)/\Below w.heap.size w w':=by
 have hsn:=hle.said;have hln:=hle.locks;have hsn':(r.sn:Int)<=1048576:=by omega
 have hln':(r.ln:Int)<=1048576:=by omega
 have HCF:Hid (Calls Tryz.prog 56 #[.slice a m cap] w fun e w'=>e = .returned (.int .i64 0)/\Below w.heap.size w w'):=by show Calls _ _ _ _ _;rw [<- hk];exact qM4 a m cap cs w hm hcl hc
 have HB:Hid (∀ W,Below w.heap.size w W->qF8 W b r/\qG1 W r/\qA6 W a m cs):=fun W q=>⟨hb.below q,hr.below q,hc.below q⟩
 have hbl:b < w.heap.size:=hb.lt;obtain ⟨hm1,hm8,hok⟩:=qT4 hk;have hml:cs.length=m:=hc.len;have hm0:0 < m:=by omega
 have hm0':(0:Int) < (m:Int):=by omega
 obtain ⟨g,off,c0,rfl,hc0,hat,_⟩:=hc.at hm0
 obtain ⟨v0,v1,v2,v3,v4⟩:=hat;simp only [Nat.zero_mul,Nat.add_zero] at v0 v1 v2 v3 v4;have hgl:g < w.heap.size:=zL w _ v0;have hf0:f0C cs=c0.f:=by unfold f0C;rw [hc0];rfl
 have hff:1<=c0.f/\c0.f<=2:=qHW (hok 0 c0 hc0).1;have hw1:IntKind.i64.wrap (3 * c0.f)=3 * c0.f:=QH6 (by omega) (by omega);have hw2:IntKind.i64.wrap (3 * c0.f+1)=3 * c0.f+1:=QH6 (by omega) (by omega);have V1:Hid (∀ W:World,Below w.heap.size w W->W.cell? ⟨g,off+1,none⟩=some (.int .i64 c0.f)):=fun W hb=>(hb.cell (p:=⟨g,off+1,none⟩) hgl).trans v1
 have h1:inR r.i 1 (3 * c0.f+1)=true:=by rw [<- hf0];exact h1'
 have HI1:Hid (∀ W:World,Calls Tryz.prog 57 #[.int .i64 r.i,.int .i64 1,.int .i64 (3 * c0.f+1)] W fun e w'=>e = .returned (.bool true)/\Below W.heap.size W w'):=fun W=>by
  have q:=qN4 r.i 1 (3 * c0.f+1) W;rw [show (decide (1<=r.i)&&decide (r.i<=3 * c0.f+1))=true from h1] at q;exact q.mono fun e w' h=>⟨h.1,by rw [<- h.2];exact Below.refl _ _⟩
 have HI2:Hid (∀ W:World,Calls Tryz.prog 57 #[.int .i64 r.u,.int .i64 0,.int .i64 (r.sn:Int)] W fun e w'=>e = .returned (.bool true)/\Below W.heap.size W w'):=fun W=>by
  have q:=qN4 r.u 0 (r.sn:Int) W;rw [show (decide (0<=r.u)&&decide (r.u<=(r.sn:Int)))=true from h2] at q;exact q.mono fun e w' h=>⟨h.1,by rw [<- h.2];exact Below.refl _ _⟩
 clear h1 h1' h2 hf0;have h40':(r.sn:Int)<=40:=by omega
 have HPY:Hid (∀ W:World,Below w.heap.size w W->Calls Tryz.prog 58 #[.int .i64 r.i,.slice (some ⟨g,off,none⟩) m cap,.slice r.sa r.sn r.sc] W fun d w'=>∃ (sa:Option Addr) (sn sc:Nat) (la:Option Addr) (ln lc:Nat),d = .returned (.tuple #[.agg #[.int .i64 r.i,.int .i64 0,.slice sa sn sc,.slice la ln lc],.bool true])/\Below W.heap.size W w'/\(∀ ls,op=some ls->ln=ls.length/\qA7 w' (W.heap.size+1) (.slice la ls.length lc) ls)):=fun W hb=>by
  refine (QW7 E r.i _ m cap cs r.sa r.sn r.sc r.ss W hEC (hc.below hb) hm0 (by omega) (hr.said.below hb) hsn).mono ?_;rintro d w' ⟨g1,g2,g3⟩;rw [hop] at g2 g3;obtain ⟨sa,sc,la,lc,rfl,_,ho2⟩:=g2 ls hso;exact ⟨sa,r.sn,sc,la,ls.length,lc,rfl,g1,fun ls' e=>by rw [hso] at e;cases e;exact ⟨rfl,ho2⟩⟩
 clear hop;have HT:Hid ((if ls=r.ls then (0:Int) else 10)=t):=ht;clear hEC ht;clear hok v0 v1 v2 v3 v4 hc0 hff hml;clear hb hr hc hcl hk hle;go_enter Tryz.func29,Tryz.ntmps29;go_wp2_with fail
 refine HCF.out.mono ?_;rintro d w1 ⟨rfl,hb1⟩;have B1:=qD7 hb1;clear hb1 HCF;obtain ⟨x0,x1,x2,x3⟩:=(HB.out _ B1.out).1;have y1:=V1.out _ B1.out;have hbl1:b < w1.heap.size:=Nat.lt_of_lt_of_le hbl B1.out.size;have hgl1:g < w1.heap.size:=Nat.lt_of_lt_of_le hgl B1.out.size;go_upto_region 4 with fail
 refine wp_region_held_drew (S:=fun w'=>(∀ b o,b < w1.heap.size->w'.cell? ⟨b,o,none⟩=w1.cell? ⟨b,o,none⟩)/\Below w1.heap.size w1 w') (by kernel_rfl) (qC1 _) (fun hHeld=>?_);refine Zk.go [0,1,2,3,4,5,6,7,8,9] ?_
 iterate 10
  refine Zk.st (v:=?_) rfl ?_ ?_;rotate_left 1
  ·intro w hSw;(try dsimp only at hSw);go_simp;try (with_reducible rfl)
  try simp only [Act.put,zA,zB,zC,zD,zE,zF]
 refine Zk.fin ?_;refine Zk.rd (i:=10) rfl (fun K hK=>?_);go_simp;refine (HI1.out _).mono ?_;rintro d w2 ⟨rfl,hb2⟩;have hS:=qA9 hHeld hb2;refine hK.out _ _ hS (fun hHeld=>?_);clear hK K;try simp only [Act.put,zA,zB,zC,zD,zE,zF]
 refine Zk.go [11,12,13,14,15,16,17,18,19,20,21] ?_
 iterate 11
  refine Zk.st (v:=?_) rfl ?_ ?_;rotate_left 1
  ·intro w hSw;(try dsimp only at hSw);go_simp;try (with_reducible rfl)
  try simp only [Act.put,zA,zB,zC,zD,zE,zF]
 refine Zk.fin ?_;refine Zk.rd (i:=22) rfl (fun K hK=>?_);go_simp;refine (HI2.out _).mono ?_;rintro d w3 ⟨rfl,hb3⟩;have hS:=qA9 hHeld hb3;refine hK.out _ _ hS (fun hHeld=>?_);clear hK K;try simp only [Act.put,zA,zB,zC,zD,zE,zF]
 refine Zk.go [23,24] ?_
 iterate 2
  refine Zk.st (v:=?_) rfl ?_ ?_;rotate_left 1
  ·intro w hSw;(try dsimp only at hSw);go_simp;try (with_reducible rfl)
  try simp only [Act.put,zA,zB,zC,zD,zE,zF]
 refine Zk.fin ?_;refine wpAnyH_done (by kernel_rfl) ?_ _;have B4:Hid (Below w.heap.size w w3):=B1.out.trans (hHeld.2.mono B1.out.size);clear hHeld hS hb2 hb3 x0 x1 x2 x3 y1 hbl1 hgl1 B1 HI1 HI2;obtain ⟨x0,x1,x2,x3⟩:=(HB.out _ B4.out).1;have hbl3:b < w3.heap.size:=Nat.lt_of_lt_of_le hbl B4.out.size;go_upto_region 8 with fail
 go_cut [6,7] from 46 to 57 (fun s6 s7 W=>s7 = .bool true/\∃ (q:Nat) (sa:Option Addr) (sn sc:Nat) (la:Option Addr) (ln lc:Nat),s6 = .pointer (some ⟨q,0,none⟩)/\qV9 q [.int .i64 r.i,.int .i64 0,.slice sa sn sc,.slice la ln lc] W/\q < W.heap.size/\Below w.heap.size w W/\(∀ ls,op=some ls->qK8 W la ln ls))
 case first =>
  refine wp_region_held_drew (S:=fun w'=>(∀ b o,b < w3.heap.size->w'.cell? ⟨b,o,none⟩=w3.cell? ⟨b,o,none⟩)/\Below w3.heap.size w3 w') (by kernel_rfl) (qC1 _) (fun hHeld=>?_);refine Zk.go [0,1,2,3,4,5,6,7,8] ?_
  iterate 9
   refine Zk.st (v:=?_) rfl ?_ ?_;rotate_left 1
   ·intro w hSw;(try dsimp only at hSw);go_simp;try (with_reducible rfl)
   try simp only [Act.put,zA,zB,zC,zD,zE,zF]
  refine Zk.fin ?_;refine wpAnyH_ready (rs:=[9,13]) (by kernel_rfl) (by simp) ?_;refine AllReadyH.cons rfl (fun K hK=>?_) (AllReadyH.cons rfl (fun K hK=>?_) AllReadyH.nil)
  ·go_simp;refine (HPY.out _ (B4.out.trans (hHeld.2.mono B4.out.size))).mono ?_;rintro d w5 ⟨sa,sn,sc,la,ln,lc,rfl,hb5,hR⟩;have hS:=qA9 hHeld hb5;have hs5:=hb5.size;have hS5:=qD7 hS.2;have HRR:=qD7 hR;clear hR;have hs5':w3.heap.size<=w5.heap.size:=hs5;refine hK.out _ _ hS (fun hHeld=>?_);clear hK K;try simp only [Act.put,zA,zB,zC,zD,zE,zF]
   refine Zk.go [10,11,12] ?_
   iterate 3
    refine Zk.st (v:=?_) rfl ?_ ?_;rotate_left 1
    ·intro w hSw;(try dsimp only at hSw);go_simp;try (with_reducible rfl)
    try simp only [Act.put,zA,zB,zC,zD,zE,zF]
   refine Zk.fin ?_;refine Zk.rd (i:=13) rfl (fun K hK=>?_);go_simp;have hS:=kpN (hHeld.2.alloc hHeld.2.size (.cells #[.int .i64 0,.int .i64 0,.slice none 0 0,.slice none 0 0] 36));refine hK.out _ _ hS (fun hHeld=>?_);clear hK K;try simp only [Act.put,zA,zB,zC,zD,zE,zF]
   refine Zk.rd (i:=14) rfl (fun K hK=>?_);go_simp;have hS:=kpN (hS5.out.alloc hS5.out.size (.cells #[.int .i64 r.i,.int .i64 0,.slice sa sn sc,.slice la ln lc] 36));refine hK.out _ _ hS (fun hHeld=>?_);clear hK K;try simp only [Act.put,zA,zB,zC,zD,zE,zF]
   refine Zk.rd (i:=15) rfl (fun K hK=>?_);go_simp;refine hK.out _ _ (by assumption) (fun hHeld=>?_);clear hK K;try simp only [Act.put,zA,zB,zC,zD,zE,zF]
   refine wpAnyH_done (by kernel_rfl) ?_ _;go_wp2_with fail
   go_meet
   have AA:Below w5.heap.size w5 (w5.alloc (.cells #[.int .i64 r.i,.int .i64 0,.slice sa sn sc,.slice la ln lc] 36)):=zN;exact ⟨rfl,w5.heap.size,sa,sn,sc,la,ln,lc,rfl,(qE6 w5 _ _).out,by simp,B4.out.trans (hS.2.mono B4.out.size),fun ls' e=>by obtain ⟨h1,h2⟩:=HRR.out ls' e;subst h1;exact LkV.isIn rfl (h2.below AA).view⟩
  ·go_simp;have hS:=kpN (hHeld.2.alloc hHeld.2.size (.cells #[.int .i64 0,.int .i64 0,.slice none 0 0,.slice none 0 0] 36));refine hK.out _ _ hS (fun hHeld=>?_);clear hK K;try simp only [Act.put,zA,zB,zC,zD,zE,zF]
   refine Zk.rd (i:=9) rfl (fun K hK=>?_);go_simp;refine (HPY.out _ (B4.out.trans (hHeld.2.mono B4.out.size))).mono ?_;rintro d w5 ⟨sa,sn,sc,la,ln,lc,rfl,hb5,hR⟩;have hS:=qA9 hHeld hb5;have hs5:=hb5.size;have hS5:=qD7 hS.2;have HRR:=qD7 hR;clear hR;have hs5':w3.heap.size+1<=w5.heap.size:=by simpa using hs5
   have XQ:qH0 w3.heap.size [.int .i64 0,.int .i64 0,.slice none 0 0,.slice none 0 0] w5:=qH0.below (qG7 w3.drew _ _) (by simp) hb5;have z0:=XQ.1 0 _ rfl;have z1:=XQ.1 1 _ rfl;have z2:=XQ.1 2 _ rfl;have z3:=XQ.1 3 _ rfl;have f0:=XQ.2 0;have f1:=XQ.2 1;have f2:=XQ.2 2;have f3:=XQ.2 3;have hql:w3.heap.size < w5.heap.size:=hs5';refine hK.out _ _ hS (fun hHeld=>?_);clear hK K;try simp only [Act.put,zA,zB,zC,zD,zE,zF]
   refine Zk.go [10,11,12] ?_
   iterate 3
    refine Zk.st (v:=?_) rfl ?_ ?_;rotate_left 1
    ·intro w hSw;(try dsimp only at hSw);go_simp;try (with_reducible rfl)
    try simp only [Act.put,zA,zB,zC,zD,zE,zF]
   refine Zk.fin ?_;refine Zk.rd (i:=14) rfl (fun K hK=>?_);go_simp;have hS:=kpN ((((hHeld.2.setCell (p:=⟨w3.heap.size,0,none⟩) (Nat.le_refl _) (.int .i64 r.i)).setCell (p:=⟨w3.heap.size,1,none⟩) (Nat.le_refl _) (.int .i64 0)).setCell (p:=⟨w3.heap.size,2,none⟩) (Nat.le_refl _) (.slice sa sn sc)).setCell (p:=⟨w3.heap.size,3,none⟩) (Nat.le_refl _) (.slice la ln lc));refine hK.out _ _ hS (fun hHeld=>?_);clear hK K;try simp only [Act.put,zA,zB,zC,zD,zE,zF]
   refine Zk.rd (i:=15) rfl (fun K hK=>?_);go_simp;refine hK.out _ _ (by assumption) (fun hHeld=>?_);clear hK K;try simp only [Act.put,zA,zB,zC,zD,zE,zF]
   refine wpAnyH_done (by kernel_rfl) ?_ _;go_wp2_with fail
   go_meet
   exact ⟨rfl,w3.heap.size,sa,sn,sc,la,ln,lc,rfl,((((XQ.put 0 (by simp) _).put 1 (by simp) _).put 2 (by simp) _).put 3 (by simp) _).1,by simpa using hql,B4.out.trans (hS.2.mono B4.out.size),fun ls' e=>by obtain ⟨h1,h2⟩:=HRR.out ls' e;subst h1;exact qCE h2 (by first | (simp;omega) | simp) _ _ _ _⟩
 clear x0 x1 x2 x3 hbl3 B4 HPY;obtain ⟨rfl,q,sa,sn,sc,la,ln,lc,rfl,hQ,hql,hBq,hLq⟩:=hcut;have B5:=qD7 hBq;have q3:=hQ 3 _ rfl;obtain ⟨x0,x1,x2,x3⟩:=(HB.out _ B5.out).1;have hbl5:b < wc.heap.size:=Nat.lt_of_lt_of_le hbl B5.out.size;obtain rfl:ls.length=ln:=(hLq ls hso).1;have HL1:Hid (qK8 wc la ls.length ls):=hLq ls hso;have HL2:Hid (qK8 wc r.la r.ln r.ls):=(HB.out _ B5.out).2.1.locks;have HRL:Hid (r.ls.length=r.ln):=HL2.out.1;have hnb:((ls.length:Int) != (r.ln:Int))=false:=by simp [heq]
 have hll':(ls.length:Int)<=1048576:=by omega
 have HQ:Hid (∀ q',(wc.drewN q').cell? ⟨q,3,none⟩=some (.slice la ls.length lc)/\(wc.drewN q').cell? ⟨b,3,none⟩=some (.slice r.la r.ln r.lc)):=fun q'=>⟨q3,x3⟩
 have HEQ:Hid (ls.length=r.ln):=heq;go_upto_region 9 with fail
 go_quiet (fail)
 clear heq hLq;go_wp2_with fail
 go_loopw [8] (fun j wr=>∃ k:Nat,k<=ls.length/\j = .int .i64 (k:Int)/\ls.take k=r.ls.take k/\∃ q',wr=wc.drewN q') (fun j _=>ls.length - (intOf j).toNat)
 case atStart=>exact ⟨0,Nat.zero_le _,rfl,by simp,_,rfl⟩
 case round =>
  obtain ⟨k,hk,rfl,htk,q',rfl⟩:=hrel;have HTK:Hid (ls.take k=r.ls.take k):=htk;clear htk;by_cases hlt:k < ls.length
  ·obtain ⟨b1,o1,s,e1,hs,hr1,hb1⟩:=HL1.out.at hlt
   obtain ⟨b2,o2,s2,e2,hs2,hr2,hb2⟩:=HL2.out.at (by rw [<- HEQ.out];exact hlt)
   have HE1:Hid (la=some ⟨b1,o1,none⟩):=e1;have HE2:Hid (r.la=some ⟨b2,o2,none⟩):=e2;have q3':wc.cell? ⟨q,3,none⟩=some (.slice (some ⟨b1,o1,none⟩) ls.length lc):=by rw [<- e1];exact q3
   have x3':wc.cell? ⟨b,3,none⟩=some (.slice (some ⟨b2,o2,none⟩) r.ln r.lc):=by rw [<- e2];exact x3
   have HS:Hid (ls[k]? = some s):=hs;have HS2:Hid (r.ls[k]? = some s2):=hs2;clear hs hs2 e1 e2 q3 x3;obtain ⟨h0,h1,h2,h3⟩:=hr1;obtain ⟨g0,g1,g2,g3⟩:=hr2;have hlt':(k:Int) < (ls.length:Int):=by omega
   have hlt2:(k:Int) < (r.ln:Int):=by have:=HEQ.out;omega
   by_cases hsame:s=s2
   ·have HN:Hid (ls.take (k+1)=r.ls.take (k+1)):=by
     show ls.take (k+1)=r.ls.take (k+1)
     rw [List.take_add_one,List.take_add_one,HTK.out,HS.out,HS2.out,hsame]
    have hd:decide (s=s2)=true:=decide_eq_true hsame;clear hsame;go_wp2_with fail
    go_quiet (fail)
    go_wp2_with fail
    exact ⟨⟨k+1,by omega,by go_num,HN.out,_,rfl⟩,by simp [intOf];omega⟩
   ·have HE:Hid (t=10):=by
     show t=10
     rw [<- HT.out];refine if_neg (fun e=>hsame ?_);have h1:=HS.out;rw [e,HS2.out] at h1;exact (Option.some.inj h1).symm
    have hd:decide (s=s2)=false:=decide_eq_false hsame;clear hsame;go_wp2_with fail
    go_quiet (fail)
    go_wp2_with fail
    go_ret;exact ⟨by rw [HE.out];rfl,bdN (bdN B5.out _) _⟩
  ·have hkn:k=ls.length:=by omega
   subst hkn
   have HE:Hid (t=0):=by
    show t=0
    rw [<- HT.out];refine if_pos ?_;have:=HTK.out;rw [List.take_length,HEQ.out,<- HRL.out,List.take_length] at this;exact this
   go_wp2_with fail
   go_ret;exact ⟨by rw [HE.out];rfl,bdN B5.out _⟩
end

theorem qGs (E:qH1) (b:Nat) (r:qL4) (a:Option Addr) (m cap:Nat) (cs:List qA4) (w:World) (hb:qF8 w b r) (hr:qG1 w r) (hle:QC0 1048576 r) (hc:qA6 w a m cs) (hcl:qG0 1048576 cs) (hm:m<=1048576) (hEC:qC4 cs=0->qN7 E cs) :
  Calls Tryz.prog 29 #[.pointer (some ⟨b,0,none⟩),.slice a m cap] w fun d w'=>d = .returned (.int .i64 (qT9 E cs r))/\Below w.heap.size w w':=by
 unfold qT9;by_cases hk:qC4 cs=0
 ·rw [if_pos hk];cases h1:inR r.i 1 (3 * f0C cs+1)
  ·have e:qI2 (f0C cs) r=false:=by unfold qI2;rw [h1];rfl
   rw [e,if_neg (by decide)];exact qHV E b r a m cap cs w hb hr hle hc hcl hm hk h1
  ·cases h2:inR r.u 0 (r.sn:Int)
   ·have e:qI2 (f0C cs) r=false:=by unfold qI2;rw [h1,h2];rfl
    rw [e,if_neg (by decide)];exact qCc E b r a m cap cs w hb hr hle hc hcl hm hk h1 h2
   ·have e:qI2 (f0C cs) r=true:=by unfold qI2;rw [h1,h2];rfl
    rw [e,if_pos rfl];by_cases h40:40 < r.sn
    ·rw [if_pos h40];exact qCe E b r a m cap cs w hb hr hle hc hcl hm hk h1 h2 h40
    ·rw [if_neg h40];cases ho:qD2 E r.ss r.sn with
     | none =>
      rw [if_neg (by intro q;cases q)];exact qCd E b r a m cap cs w hb hr hle hc hcl hm hk h1 h2 (hEC hk) (by omega) _ ho rfl
     | some ls =>
      have hll:ls.length<=1048576:=QW1 r.sn ls ho (by rw [hr.said.1];exact Nat.le_refl _);by_cases hle':ls.length=r.ln
      ·have q:=qFP E b r a m cap cs w hb hr hle hc hcl hm hk h1 h2 (hEC hk) (by omega) _ ho ls rfl hll hle' _ rfl;by_cases e:ls=r.ls
       ·rw [if_pos (by rw [e])];rw [if_pos e] at q;exact q
       ·rw [if_neg (fun q=>e (Option.some.inj q))];rw [if_neg e] at q;exact q
      ·rw [if_neg (fun q=>hle' (by rw [Option.some.inj q];exact hr.locks.1))];exact qFO E b r a m cap cs w hb hr hle hc hcl hm hk h1 h2 (hEC hk) (by omega) _ ho ls rfl hll hle'
 ·rw [if_neg hk];exact qCf E b r a m cap cs w hb hr hle hc hcl hm _ rfl hk
theorem qME {cs:List qA4} (hcl:qG0 1048576 cs):∃ E:qH1,qC4 cs=0->qN7 E cs:=by
 by_cases hk:qC4 cs=0
 ·have hok:=(qT4 hk).2.2
  have hg:∀ p:Nat,∃ gs:List GrI,∀ c,cs[p]? = some c->QJ9 c.zs gs:=fun p=>by
   cases h:cs[p]? with
   | none=>exact ⟨[],fun c e=>by cases e⟩
   | some c =>
    obtain ⟨gs,q⟩:=qJR c.zs (QG1 (hok p c h).1).2.2.1;exact ⟨gs,fun c' e=>by cases e;exact q⟩
  refine ⟨⟨cs.map (·.e),fun p f s=>alW (qA5 (cs[p]?.getD default).fs) (Classical.choose (hg p)) f s,fun p=>(cs[p]?.getD default).cs⟩,fun _=>⟨rfl,fun p c hc=>⟨⟨hcl.le p c hc,(hcl.rc p c hc).1,(hcl.rc p c hc).2,(hok p c hc).1⟩,Classical.choose (hg p),Classical.choose_spec (hg p) c hc,fun f s=>?_,?_⟩⟩⟩
  ·show alW (qA5 (cs[p]?.getD default).fs) _ f s=_
   have e:cs[p]?.getD default=c:=by rw [hc];rfl
   rw [e]
  ·show (cs[p]?.getD default).cs=c.cs
   rw [hc];rfl
 ·exact ⟨⟨[],fun _ _ _=>false,fun _=>[]⟩,fun q=>absurd q hk⟩
