/- Contracts. -/
import Derived.Test.YtdppdbihhlipeaaGreatDoorPr40
import Derived.Test.YtdppdbihhlipeaaGreatDoorPr41
namespace Go.Proofs.YtdppdbihhlipeaaGreatDoor
set_option maxRecDepth 100000
set_option maxHeartbeats 8000000
open Go.RowKit
set_option linter.unusedVariables false
set_option linter.unusedSimpArgs false

theorem qBC (E:qH1) (b B:Nat) (a:Option Addr) (m cap:Nat) (cs:List qA4) (sa:Option Addr) (sc:Nat) (said:List StI) (la:Option Addr) (lc:Nat) (ls:List LkI) (x:StI) (w:World) (hS:qG9 w b B (.slice a m cap) sa sc said la lc ls) (hEC:qN7 E cs) (hSt:qS4 w B a m cs) (hm:0 < m) (hm8:m<=8) (hRp:RpS E said ls) (hst:qB5 x=0) (hsx:qD9 said x=true)  :
  Calls Tryz.prog 84 #[.pointer (some ⟨b,0,none⟩),.agg #[.int .i64 x.k,.int .i64 x.e,.int .i64 x.f,.int .i64 x.s,.int .i64 x.n]] w fun d w'=>d = .returned (.int .i64 0)/\qG9 w' b B (.slice a m cap) sa sc said la lc ls/\Below B w w':=by
 obtain ⟨⟨hk1,hk2⟩,⟨he1,he2⟩,⟨hn1,hn2⟩,_⟩:=qH8 hst;have hlen:=hRp.len;have hrows:=hS.rows;have hbl:=hS.lt;have HST:Hid (qS4 w B a m cs):=hSt;have HEC:Hid (qN7 E cs):=hEC;have HRP:Hid (RpS E said ls):=hRp;have hml:cs.length=m:=(hSt w (Below.refl _ _)).1.1
 have HNX:Hid (∀ x∈said,x.k=4->0<=x.n/\x.n < (m:Int)):=fun y hy hk=>by
  have:=hRp.nx y hy hk;rw [hEC.es,List.length_map,hml] at this;exact this
 obtain ⟨V,hV⟩:∃ V,V=qE3 w b x:=⟨_,rfl⟩;have HV:Hid (V=qE3 w b x):=hV;have E0:qN0 w.heap.size b x 0 V:=by rw [hV];exact qN0.new w b x
 have B0:Below w.heap.size w V:=by rw [hV];exact qE3.below w b x
 have HS0:Hid (qG9 V b B (.slice a m cap) sa sc said la lc ls):=hS.below B0;have HB0:Hid (Below w.heap.size w V):=B0;have HE0:Hid (qN0 w.heap.size b x 0 V):=E0;have hBb:=hS.hb;have HF:Hid (∀ W:World,Calls Tryz.prog 93 #[.agg #[.int .i64 x.k,.int .i64 x.e,.int .i64 x.f,.int .i64 x.s,.int .i64 x.n]] W fun e w'=>e = .returned (.int .i64 0)/\Below W.heap.size W w'):=fun W=>by rw [<- hst];exact qB7 x W
 have HCN:Hid (∀ W:World,qG9 W b B (.slice a m cap) sa sc said la lc ls->Calls Tryz.prog 108 #[.slice sa said.length sc,.agg #[.int .i64 x.k,.int .i64 x.e,.int .i64 x.f,.int .i64 x.s,.int .i64 x.n]] W fun e w'=>e = .returned (.bool true)/\Below W.heap.size W w'):=fun W q=>by rw [<- hsx];exact qF6 sa said.length sc said x W (by omega) q.stIn
 have HSE:Hid (qG9 w b B (.slice a m cap) sa sc said la lc ls):=hS;have hmf:∀ (fn:Fn) (first cap:Array Value) (w:World),(Instr.makeFunc fn first cap).run Tryz.prog w = .ok (.func fn first cap) w:=fun _ _ _ _=>rfl
 have HRW:Hid ((∀ g,(Value.slice sa said.length sc).ownBlock=some g->g < w.heap.size)/\(∀ g,(Value.slice la ls.length lc).ownBlock=some g->g < w.heap.size)):=hrows;clear hS hEC hSt hRp B0 hV E0 hst hsx hrows hml;go_enter Tryz.func84,Tryz.ntmps84;go_wp2_with fail
 rw [show ((w.alloc (.cells #[.pointer (some ⟨b,0,none⟩)] 145)).alloc (.cells #[.int .i64 x.k,.int .i64 x.e,.int .i64 x.f,.int .i64 x.s,.int .i64 x.n] 85)).alloc (.cells #[.int .i64 0] 2)=V from HV.out.symm];refine (HF.out _).mono ?_;rintro d w1 ⟨rfl,hb1⟩;have E1:=HE0.out.below hb1;have e1:=E1.c;have f1:=E1.f;have l1:=E1.lt;have E2:=E1.put 0
 have S2:qG9 (w1.setCell ⟨w.heap.size+1+1,0,none⟩ (.int .i64 0)) b B (.slice a m cap) sa sc said la lc ls:=(HS0.out.below hb1).other (fun g hg=>by
  show g≠w.heap.size+1+1
  rcases hg with q | q | q
  ·have:=HRW.out.1 g q;omega
  ·have:=HRW.out.2 g q;omega
  ·omega) _
 have B2:Hid (Below B w (w1.setCell ⟨w.heap.size+1+1,0,none⟩ (.int .i64 0))):=((HB0.out.trans (hb1.mono HB0.out.size)).mono (by omega)).setCell (by show B<=w.heap.size+1+1;omega) _;go_upto_region 2 with fail
 generalize w1.setCell ⟨w.heap.size+1+1,0,none⟩ (.int .i64 0)=w2 at *
 clear e1 f1 l1 E1 hb1;refine wp_region_held_drew (S:=fun w'=>qN0 w.heap.size b x 0 w'/\qG9 w' b B (.slice a m cap) sa sc said la lc ls) (by kernel_rfl) (⟨E2.below (Below.refl _ _).drew,S2.below (Below.refl _ _).drew⟩) (fun hHeld=>?_);refine Zk.go [0,1,2,3,4,5,6,7] ?_
 iterate 8
  refine Zk.st (v:=?_) rfl ?_ ?_;rotate_left 1
  ·intro w hSw;have p0:=hSw.1.s;have p1:=hSw.1.x0;have p2:=hSw.1.x1;have p3:=hSw.1.x2;have p4:=hSw.1.x3;have p5:=hSw.1.x4;have p6:=hSw.1.c;have p7:=hSw.2.spk.c1;clear hSw;go_simp;try (with_reducible rfl)
  try simp only [Act.put,zA,zB,zC,zD,zE,zF]
 refine Zk.fin ?_;refine Zk.rd (i:=8) rfl (fun K hK=>?_);go_simp;refine (HCN.out _ hHeld.2).mono ?_;rintro d w3 ⟨rfl,hb3⟩;have hS:qN0 w.heap.size b x 0 w3/\qG9 w3 b B (.slice a m cap) sa sc said la lc ls:=⟨hHeld.1.below hb3,hHeld.2.below hb3⟩;have hB3:Below B w w3:=B2.out.drew.trans (hb3.mono (by have:=B2.out.size;show B<=w2.heap.size;omega));refine hK.out _ _ hS (fun hHeld=>?_);clear hK K;try simp only [Act.put,zA,zB,zC,zD,zE,zF]
 refine Zk.go [9] ?_;refine Zk.st (v:=?_) rfl ?_ ?_;rotate_left 1
 ·intro w hSw;have p0:=hSw.1.s;have p1:=hSw.1.x0;have p2:=hSw.1.x1;have p3:=hSw.1.x2;have p4:=hSw.1.x3;have p5:=hSw.1.x4;have p6:=hSw.1.c;have p7:=hSw.2.spk.c1;clear hSw;go_simp;try (with_reducible rfl)
 try simp only [Act.put,zA,zB,zC,zD,zE,zF]
 refine Zk.fin ?_;refine wpAnyH_done (by kernel_rfl) ?_ _;have p6:=hS.1.c;have p6f:=hS.1.f;have p6l:=hS.1.lt
 have S4:qG9 (w3.setCell ⟨w.heap.size+1+1,0,none⟩ (.int .i64 0)) b B (.slice a m cap) sa sc said la lc ls:=hS.2.other (fun g hg=>by
  show g≠w.heap.size+1+1
  rcases hg with q | q | q
  ·have:=HRW.out.1 g q;omega
  ·have:=HRW.out.2 g q;omega
  ·omega) _
 have B4:=hB3.setCell (p:=⟨w.heap.size+1+1,0,none⟩) (by show B<=w.heap.size+1+1;omega) (.int .i64 0);have H4:=qD7 S4;clear hHeld hS hB3 hb3 E2 S2 B2 S4;go_wp2_with fail
 exact bodyPost_ret (v:=.int .i64 0) (by simp [results,Tryz.results84,go_sem,p6,p6l]) rfl ⟨rfl,H4.out,B4⟩
def qNB (E:qH1) (w:World) (b B:Nat) (cv:Value) (sa:Option Addr) (sc:Nat) (said:List StI) (la:Option Addr) (lc:Nat) (ls:List LkI) (x:StI) (d:Ending) (w':World):Prop :=
 d = .returned (.int .i64 (qE9 E said ls x))/\Below B w w'/\((qE9 E said ls x≠0\/qD9 said x=true)->qG9 w' b B cv sa sc said la lc ls)/\(qE9 E said ls x=0->qD9 said x=false->∃ sa' sc' la' lc',qG9 w' b B cv sa' sc' (said++[x]) la' lc' (qE1 E said ls x))
theorem QH2 {E:qH1} {w:World} {b B:Nat} {cv:Value} {sa:Option Addr} {sc:Nat} {said:List StI} {la:Option Addr} {lc:Nat} {ls:List LkI} {x:StI} {k:Int} {L:List LkI} {d:Ending} {w':World} (hst:qB5 x=0) (hsx:qD9 said x=false) (hk:qF7 E said ls x=k) (hL:k=0->qE1 E said ls x=L) (h:qJX w b B cv sa sc said la lc ls x k L d w'):qNB E w b B cv sa sc said la lc ls x d w':=by
 have e:qE9 E said ls x=k:=by
  unfold qE9;rw [if_pos hst,hsx,if_neg (by decide),hk]
 obtain ⟨h1,h2,h3,h4⟩:=h;refine ⟨by rw [e];exact h1,h4,fun q=>?_,fun q _=>?_⟩
 ·rw [e,hsx] at q;exact h2 (q.elim id (fun q=>by cases q))
 ·rw [e] at q;rw [hL q];exact h3 q
theorem qHZ (E:qH1) (b B:Nat) (a:Option Addr) (m cap:Nat) (cs:List qA4) (sa:Option Addr) (sc:Nat) (said:List StI) (la:Option Addr) (lc:Nat) (ls:List LkI) (x:StI) (w:World) (hS:qG9 w b B (.slice a m cap) sa sc said la lc ls) (hEC:qN7 E cs) (hSt:qS4 w B a m cs) (hm:0 < m) (hm8:m<=8) (hRp:RpS E said ls) :
  Calls Tryz.prog 84 #[.pointer (some ⟨b,0,none⟩),.agg #[.int .i64 x.k,.int .i64 x.e,.int .i64 x.f,.int .i64 x.s,.int .i64 x.n]] w fun d w'=>qNB E w b B (.slice a m cap) sa sc said la lc ls x d w':=by
 have hlen:=hRp.len;have hBw:B<=w.heap.size:=Nat.le_trans hS.hb (Nat.le_of_lt hS.lt);by_cases hst:qB5 x=0
 ·cases hsx:qD9 said x
  ·have hml:cs.length=m:=(hSt w (Below.refl _ _)).1.1;have hel:E.es.length=m:=by rw [hEC.es,List.length_map,hml]
   obtain ⟨⟨hk1,hk2⟩,_⟩:=qH8 hst;rcases qDk hRp (by omega) x.e with hkn | ⟨hp0,hpl⟩
   ·have hneg:qB6 E said x.e < 0:=by omega
    refine (qBD E b B a m cap cs sa sc said la lc ls x w hS hEC hSt hm hm8 hRp hst hsx hneg []).mono fun d w' h=>QH2 hst hsx ?_ (fun q=>by cases q) h
    unfold qF7;rw [if_pos hneg]
   ·obtain ⟨c,hpc⟩:∃ c,cs[(qB6 E said x.e).toNat]? = some c:=⟨_,List.getElem?_eq_getElem (by omega)⟩;have hneg:¬ qB6 E said x.e < 0:=by omega
    by_cases h40:40<=said.length
    ·refine (qBF E b B a m cap cs sa sc said la lc ls x w hS hEC hSt hm hm8 hRp hst hsx c hp0 hpc h40 []).mono fun d w' h=>QH2 hst hsx ?_ (fun q=>by cases q) h
     unfold qF7;rw [if_neg hneg,if_pos h40]
    ·by_cases k1:x.k=1
     ·obtain ⟨_,gs,hg,hal,hcl⟩:=hEC.cf _ c hpc
      have hnk:qF7 E said ls x=qH4 E said ls (qB6 E said x.e).toNat x:=by
       unfold qF7;rw [if_neg hneg,if_neg h40,if_pos k1]
      have hnl:qE1 E said ls x=qL5 ls c.cs x.e x.f x.s:=by
       unfold qE1;rw [if_pos k1,hcl]
      cases hse:(qT8 said x.e || qD9 said (qS3 x))
      ·cases hw:alW (qA5 c.fs) gs x.f x.s
       ·refine (QR5 E b B a m cap cs sa sc said la lc ls x w hS hEC hSt hm hm8 hRp hst hsx c hp0 hpc (by omega) k1 gs hg hse hw []).mono fun d w' h=>QH2 hst hsx ?_ (fun q=>by cases q) h
        rw [hnk];unfold qH4;rw [if_neg (by rw [hse];decide),hal,hw,if_pos rfl]
       ·refine (QY0 E b B a m cap cs sa sc said la lc ls x w hS hEC hSt hm hm8 hRp hst hsx c hp0 hpc (by omega) k1 gs hg hse hw _ rfl _ rfl).mono fun d w' h=>QH2 hst hsx ?_ (fun q=>hnl) h
        rw [hnk];unfold qH4;rw [if_neg (by rw [hse];decide),hal,hw,if_neg (by decide),hcl]
      ·refine (qCk E b B a m cap cs sa sc said la lc ls x w hS hEC hSt hm hm8 hRp hst hsx c hp0 hpc (by omega) k1 gs hg hse []).mono fun d w' h=>QH2 hst hsx ?_ (fun q=>by cases q) h
       rw [hnk];unfold qH4;rw [if_pos hse]
     ·have hnl:qE1 E said ls x=ls:=by
       unfold qE1;rw [if_neg k1]
      by_cases k2:x.k=2
      ·refine (QR4 E b B a m cap cs sa sc said la lc ls x w hS hEC hSt hm hm8 hRp hst hsx c hp0 hpc (by omega) k2).mono fun d w' h=>QH2 hst hsx ?_ (fun _=>hnl) h
       unfold qF7;rw [if_neg hneg,if_neg h40,if_neg k1,if_pos k2]
      ·have hnk:qF7 E said ls x=qD5 E said x:=by
        unfold qF7;rw [if_neg hneg,if_neg h40,if_neg k1,if_neg k2]
       by_cases k3:x.k=3
       ·exact (qBE E b B a m cap cs sa sc said la lc ls x w hS hEC hSt hm hm8 hRp hst hsx c hp0 hpc (by omega) k3 _ rfl).mono fun d w' h=>QH2 hst hsx hnk (fun _=>hnl) h
       ·exact (qBB E b B a m cap cs sa sc said la lc ls x w hS hEC hSt hm hm8 hRp hst hsx c hp0 hpc (by omega) (by omega) _ rfl).mono fun d w' h=>QH2 hst hsx hnk (fun _=>hnl) h
  ·refine (qBC E b B a m cap cs sa sc said la lc ls x w hS hEC hSt hm hm8 hRp hst hsx).mono fun d w' h=>?_
   have e:qE9 E said ls x=0:=by
    unfold qE9;rw [if_pos hst,if_pos hsx]
   exact ⟨by rw [e];exact h.1,h.2.2,fun _=>h.2.1,fun _ q=>by rw [hsx] at q;cases q⟩
 ·refine (QY1 b _ _ sa said.length sc said x w hS.spk hS.stIn (by omega) hst).mono fun d w' h=>?_
  have e:qE9 E said ls x=qB5 x:=by
   unfold qE9;rw [if_neg hst]
  exact ⟨by rw [e];exact h.1,h.2.mono hBw,fun _=>hS.below h.2,fun q _=>absurd (e ▸ q) hst⟩

theorem QJ4 (W:World) (o:Obj):(W.alloc o).heap[W.heap.size]? = some o:=by
 show (W.heap.push o)[W.heap.size]? = _
 simp
def qMj (a:Option Addr) (m cap:Nat) (xs:List StI) (n:Nat) (o:Option (List LkI)) (w:World) (d:Ending) (w':World):Prop :=
 Below w.heap.size w w'/\(∀ ls,o=some ls->∃ (sa:Option Addr) (sc:Nat) (la:Option Addr) (lc:Nat),d = .returned (.tuple #[.agg #[.slice a m cap,.slice sa n sc,.slice la ls.length lc],.bool true])/\qB2 w' (w.heap.size+1) (.slice sa n sc) xs/\qA7 w' (w.heap.size+1) (.slice la ls.length lc) ls)/\(o=none->∃ (sa:Option Addr) (sn sc:Nat) (la:Option Addr) (ln lc:Nat),d = .returned (.tuple #[.agg #[.slice a m cap,.slice sa sn sc,.slice la ln lc],.bool false]))
structure EUL (E:qH1) (w:World) (b B:Nat) (cv:Value) (xs:List StI) (k:Nat) (ls:List LkI) (wr:World):Prop where
 pl:qD2 E xs k=some ls
 sp:∃ sa sc la lc,qG9 wr b B cv sa sc (xs.take k) la lc ls
 bl:Below B w wr
def UpR (E:qH1) (w:World) (b B:Nat) (cv:Value) (xs:List StI) (n:Nat) (d:Ending) (w':World):Prop :=
 d = .returned (.tuple #[])/\∃ (k:Nat) (ls:List LkI),k<=n/\EUL E w b B cv xs k ls w'/\(k=n\/qD2 E xs (k+1)=none)
theorem UpR.mk {E:qH1} {w:World} {b B:Nat} {cv:Value} {xs:List StI} {n:Nat} {w':World} {k:Nat} {ls:List LkI} (hk:k<=n) (h:EUL E w b B cv xs k ls w') (he:k=n\/qD2 E xs (k+1)=none):UpR E w b B cv xs n (.returned (.tuple #[])) w':=⟨rfl,k,ls,hk,h,he⟩
theorem qZ4 {E:qH1} {xs:List StI} {k:Nat} {ls:List LkI} {x:StI} (h:qD2 E xs k=some ls) (hx:xs[k]? = some x) (q:qE9 E (xs.take k) ls x≠0\/qD9 (xs.take k) x=true):qD2 E xs (k+1)=none:=by
 rw [QL7 h hx];rcases q with q | q
 ·split
  ·rfl
  ·first | rfl | rw [if_neg q]
 ·rw [if_pos q]
theorem QL8 {E:qH1} {xs:List StI} {k:Nat} {ls:List LkI} {x:StI} (h:qD2 E xs k=some ls) (hx:xs[k]? = some x) (q:qE9 E (xs.take k) ls x=0) (q2:qD9 (xs.take k) x=false):qD2 E xs (k+1)=some (qE1 E (xs.take k) ls x):=by
 rw [QL7 h hx,q2,if_neg (by decide),if_pos q]
theorem QE4 (E:qH1) (b B:Nat) (a:Option Addr) (m cap:Nat) (cs:List qA4) (s0:Option Addr) (sc0:Nat) (l0:Option Addr) (lc0:Nat) (sa:Option Addr) (n sc:Nat) (xs:List StI) (w:World) (hS:qG9 w b B (.slice a m cap) s0 sc0 [] l0 lc0 []) (hEC:qN7 E cs) (hSt:qS4 w B a m cs) (hm:0 < m) (hm8:m<=8) (h:∀ W,Below B w W->qN8 W sa n xs) (hn:n<=1048576) :
  Calls Tryz.prog 50 #[.pointer (some ⟨b,0,none⟩),.slice sa n sc] w fun d w'=>UpR E w b B (.slice a m cap) xs n d w':=by
 have HEC:Hid (qN7 E cs):=hEC;have HST:Hid (qS4 w B a m cs):=hSt;have HX:Hid (∀ W,Below B w W->qN8 W sa n xs):=h;have hn':(n:Int)<=1048576:=by omega
 have hxl:xs.length=n:=(h w (Below.refl _ _)).1;have HXL:Hid (xs.length=n):=hxl;have L0:Hid (EUL E w b B (.slice a m cap) xs 0 [] w):=⟨rfl,⟨s0,sc0,l0,lc0,hS⟩,Below.refl _ _⟩;clear hEC hSt h hxl hS;go_enter Tryz.func50,Tryz.ntmps50;go_wp2_with fail
 go_loopw [9] (fun i wr=>∃ (k:Nat) (ls:List LkI),k<=n/\i = .int .i64 (k:Int)/\Hid (EUL E w b B (.slice a m cap) xs k ls wr)) (fun i _=>n - (intOf i).toNat)
 case atStart=>exact ⟨0,[],Nat.zero_le _,rfl,L0⟩
 case round =>
  clear L0;obtain ⟨k,ls,hk,rfl,LK⟩:=hrel;obtain ⟨ta,tc,la,lc,hsp⟩:=LK.out.sp;have SP:Hid (qG9 wr b B (.slice a m cap) ta tc (xs.take k) la lc ls):=hsp;have hBw:B<=wr.heap.size:=Nat.le_of_lt (Nat.lt_of_le_of_lt hsp.hb hsp.lt);clear hsp;by_cases hlt:k < n
  ·have hlt':(k:Int) < (n:Int):=by omega
   obtain ⟨bx,off,x,ea,hx,hat,hbl⟩:=(HX.out wr LK.out.bl).at hlt
   subst ea;have HXK:Hid (xs[k]? = some x):=hx;clear hx;obtain ⟨e,he⟩:∃ e,qE9 E (xs.take k) ls x=e:=⟨_,rfl⟩;have HE:Hid (qE9 E (xs.take k) ls x=e):=he;have hRp:RpS E (xs.take k) ls:=QL6 k ls (by have:=HXL.out;omega) LK.out.pl;obtain ⟨Y,hY⟩:∃ Y,Y=wr.alloc (.cells #[.int .i64 x.k,.int .i64 x.e,.int .i64 x.f,.int .i64 x.s,.int .i64 x.n] 85):=⟨_,rfl⟩;have AY:Below wr.heap.size wr Y:=by rw [hY];exact zN
   have BY:Below B w Y:=LK.out.bl.trans (AY.mono hBw);have HB:Hid (Below B w Y):=BY;have HPL:Hid (qD2 E xs k=some ls):=LK.out.pl;have SY:Hid (qG9 Y b B (.slice a m cap) ta tc (xs.take k) la lc ls):=SP.out.below AY;have HYK:Hid ((xs.take k).length=k):=by show _=_;rw [List.length_take];have:=HXL.out;omega
   have HEN:Hid (Calls Tryz.prog 84 #[.pointer (some ⟨b,0,none⟩),.agg #[.int .i64 x.k,.int .i64 x.e,.int .i64 x.f,.int .i64 x.s,.int .i64 x.n]] Y fun d w'=>d = .returned (.int .i64 e)/\Below B Y w'/\((e≠0\/qD9 (xs.take k) x=true)->qG9 w' b B (.slice a m cap) ta tc (xs.take k) la lc ls)/\(e=0->qD9 (xs.take k) x=false->∃ sa' sc' la' lc',qG9 w' b B (.slice a m cap) sa' sc' (xs.take k++[x]) la' lc' (qE1 E (xs.take k) ls x))):=by
    have q:=qHZ E b B a m cap cs ta tc (xs.take k) la lc ls x Y SY.out HEC.out (fun W hW=>HST.out W (BY.trans hW)) hm hm8 hRp;unfold qNB at q;rw [he] at q;exact q
   obtain ⟨h0,h1,h2,h3,h4⟩:=hat;clear LK SP hRp he BY AY;go_upto_region 3 with fail
   rw [<- hY];have y0:Y.cell? ⟨wr.heap.size,0,none⟩=some (.int .i64 x.k):=by rw [hY];simp [go_sem]
   have y1:Y.cell? ⟨wr.heap.size,1,none⟩=some (.int .i64 x.e):=by rw [hY];simp [go_sem]
   have y2:Y.cell? ⟨wr.heap.size,2,none⟩=some (.int .i64 x.f):=by rw [hY];simp [go_sem]
   have y3:Y.cell? ⟨wr.heap.size,3,none⟩=some (.int .i64 x.s):=by rw [hY];simp [go_sem]
   have y4:Y.cell? ⟨wr.heap.size,4,none⟩=some (.int .i64 x.n):=by rw [hY];simp [go_sem]
   have hyl:=zL _ _ y0
   have s1:Y.cell? ⟨b,1,none⟩=some (.slice ta k tc):=by
    have q:=SY.out.spk.c1;rw [HYK.out] at q;exact q
   have hsl:=SY.out.lt;clear hY h0 h1 h2 h3 h4 SY;go_wp2_with fail
   refine HEN.out.mono ?_;rintro d w2 ⟨rfl,hb2,hs1,hs2⟩;clear HEN y0 y1 y2 y3 y4 s1 hsl;have B2:Hid (Below B w w2):=HB.out.trans hb2;clear HB hb2;by_cases e0:e=0
   ·subst e0;cases hsx:qD9 (xs.take k) x
    ·obtain ⟨sa',sc',la',lc',hS⟩:=hs2 rfl hsx;have hpm:=QL8 HPL.out HXK.out HE.out hsx;have ht:xs.take (k+1)=xs.take k++[x]:=by rw [List.take_add_one,HXK.out];rfl
     have S3:Hid (EUL E w b B (.slice a m cap) xs (k+1) (qE1 E (xs.take k) ls x) w2):=⟨hpm,⟨sa',sc',la',lc',by rw [ht];exact hS⟩,B2.out⟩
     have s1:w2.cell? ⟨b,1,none⟩=some (.slice sa' (k+1) sc'):=by
      have q:=hS.spk.c1;rw [List.length_append,HYK.out] at q;exact q
     have hsl:=hS.lt;have hne:(((k:Int)+1)==(k:Int))=false:=by simp;omega
     clear hs1 hs2 hS hpm ht hsx;go_wp2_with fail
     exact ⟨⟨k+1,_,by omega,by go_num,S3⟩,by simp [intOf];omega⟩
    ·have hS:=hs1 (.inr hsx);have hpn:qD2 E xs (k+1)=none:=qZ4 HPL.out HXK.out (.inr hsx);have S3:Hid (EUL E w b B (.slice a m cap) xs k ls w2):=⟨HPL.out,⟨ta,tc,la,lc,hS⟩,B2.out⟩
     have s1:w2.cell? ⟨b,1,none⟩=some (.slice ta k tc):=by
      have q:=hS.spk.c1;rw [HYK.out] at q;exact q
     have hsl:=hS.lt;have HPN:=qD7 hpn;clear hs1 hs2 hS hpn hsx;go_wp2_with fail
     first | go_end0 | go_returns
     exact UpR.mk hk S3.out (.inr HPN.out)
   ·have eb:(e != 0)=true:=by simp [e0]
    have hS:=hs1 (.inl e0);have hpn:qD2 E xs (k+1)=none:=qZ4 HPL.out HXK.out (.inl (by rw [HE.out];exact e0));have S3:Hid (EUL E w b B (.slice a m cap) xs k ls w2):=⟨HPL.out,⟨ta,tc,la,lc,hS⟩,B2.out⟩;have HPN:=qD7 hpn;clear hs1 hs2 hpn hS;go_wp2_with fail
    first | go_end0 | go_returns
    exact UpR.mk hk S3.out (.inr HPN.out)
  ·have hkn:k=n:=by omega
   have hlt':¬ ((k:Int) < (n:Int)):=by omega
   clear SP;go_wp2_with fail
   first | go_end0 | go_returns
   exact UpR.mk hk LK.out (.inl hkn)
theorem QB1 (E:qH1) (a:Option Addr) (m cap:Nat) (cs:List qA4) (sa:Option Addr) (n sc:Nat) (xs:List StI) (w:World) (hEC:qN7 E cs) (hSt:qS4 w w.heap.size a m cs) (hm:0 < m) (hm8:m<=8) (h:qN8 w sa n xs) (hn:n<=1048576) :
  Calls Tryz.prog 82 #[.slice a m cap,.slice sa n sc] w fun d w'=>qMj a m cap xs n (qD2 E xs n) w d w':=by
 have hn':(n:Int)<=1048576:=by omega
 have HXL:Hid (xs.length=n):=h.1;obtain ⟨V,hV⟩:∃ V,V=(w.alloc (.cells #[.slice none 0 0,.slice none 0 0,.slice none 0 0] 91)).alloc (.cells #[.slice a m cap,.slice none 0 0,.slice none 0 0] 91):=⟨_,rfl⟩;have A0:Below w.heap.size w V:=by rw [hV];exact (zN).alloc (by simp) _
 have S0:qG9 V (w.heap.size+1) (w.heap.size+1) (.slice a m cap) none 0 [] none 0 []:=by
  refine ⟨?_,World.ownsRow_nil _ _ _ _,World.ownsRow_nil _ _ _ _,Nat.le_refl _⟩;rw [hV];have e:w.heap.size+1=(w.alloc (.cells #[.slice none 0 0,.slice none 0 0,.slice none 0 0] 91)).heap.size:=by simp
  have q:=QJ4 (w.alloc (.cells #[.slice none 0 0,.slice none 0 0,.slice none 0 0] 91)) (.cells #[.slice a m cap,.slice none 0 0,.slice none 0 0] 91);rw [<- e] at q;exact q
 have XB:Hid (qH0 w.heap.size [.slice none 0 0,.slice none 0 0,.slice none 0 0] V):=by
  rw [hV];exact qH0.below (qG7 w _ _) (by simp) (zN)
 have HUP:Hid (Calls Tryz.prog 50 #[.pointer (some ⟨w.heap.size+1,0,none⟩),.slice sa n sc] V fun d w'=>UpR E V (w.heap.size+1) (w.heap.size+1) (.slice a m cap) xs n d w'):=QE4 E (w.heap.size+1) (w.heap.size+1) a m cap cs none 0 none 0 sa n sc xs V S0 hEC (fun W hW=>hSt W (A0.trans (hW.mono (Nat.le_succ _)))) hm hm8 (fun W hW=>h.below (A0.trans (hW.mono (Nat.le_succ _)))) hn;have HA0:=qD7 A0;clear hEC hSt h A0 S0;go_enter Tryz.func82,Tryz.ntmps82;go_upto_region 2 with fail
 rw [<- hV];clear hV;go_wp2_with fail
 refine HUP.out.mono ?_;unfold UpR;rintro d w2 ⟨rfl,k,ls,hk,hEU,hend⟩;obtain ⟨ta,tc,la,lc,hsp⟩:=hEU.sp;have B2:Hid (Below w.heap.size w w2):=HA0.out.trans (hEU.bl.mono (Nat.le_succ _));have X2:qH0 w.heap.size [.slice none 0 0,.slice none 0 0,.slice none 0 0] w2:=⟨fun j v e=>(World.cell?_of_block (w:=V) (w':=w2) (a:=⟨w.heap.size,j,none⟩) (hEU.bl.block _ (Nat.lt_succ_self _))).trans (XB.out.1 j v e),fun j=>(World.frozen?_of_block (w:=V) (w':=w2) (a:=⟨w.heap.size,j,none⟩) (hEU.bl.block _ (Nat.lt_succ_self _))).trans (XB.out.2 j)⟩;have HYK:Hid ((xs.take k).length=k):=by show _=_;rw [List.length_take];have:=HXL.out;omega
 have SP:=qD7 hsp;have HPL:=qD7 hEU.pl;have HND:=qD7 hend;clear hEU hend HUP XB HA0;have s0:=hsp.spk.c0
 have s1:w2.cell? ⟨w.heap.size+1,1,none⟩=some (.slice ta k tc):=by
  have q:=hsp.spk.c1;rw [HYK.out] at q;exact q
 have s2:=hsp.spk.c2;have hsl:=hsp.lt;have hwl:w.heap.size < w2.heap.size:=Nat.lt_trans (Nat.lt_succ_self _) hsl;have u0:=X2.1 0 _ rfl;have u1:=X2.1 1 _ rfl;have u2:=X2.1 2 _ rfl;have f0:=X2.2 0;have f1:=X2.2 1;have f2:=X2.2 2
 have O1:Hid (qB2 w2 (w.heap.size+1) (.slice ta k tc) (xs.take k)):=by
  have q:=SP.out.ow;rw [HYK.out] at q;exact q
 obtain ⟨t,ht⟩:∃ t,((k:Int)==(n:Int))=t:=⟨_,rfl⟩;have HT:=qD7 ht;clear hsp X2;go_upto_region 3 with fail
 go_region
 clear ht;go_wp2_with fail
 refine bodyPost_ret (v:=.tuple #[.agg #[.slice a m cap,.slice ta k tc,.slice la ls.length lc],.bool t]) (by simp [results,Tryz.results82,go_sem,u0,u1,u2,hwl]) rfl ?_;refine ⟨(((B2.out.setCell (Nat.le_refl _) _).setCell (Nat.le_refl _) _).setCell (Nat.le_refl _) _).drew,fun q hq=>?_,fun hq=>?_⟩
 ·have hkn:k=n:=HND.out.elim id (fun e=>by
   by_cases c:k=n
   ·exact c
   ·rw [qU7 e (by omega)] at hq;cases hq)
  subst hkn;rw [HPL.out] at hq;cases hq;have htk:xs.take k=xs:=by rw [<- HXL.out];exact List.take_length
  have ht:t=true:=by rw [<- HT.out];simp
  subst ht;refine ⟨ta,tc,la,lc,rfl,?_,?_⟩
  ·have q:=qA0 (X':=(((w2.setCell ⟨w.heap.size,0,none⟩ (.slice a m cap)).setCell ⟨w.heap.size,1,none⟩ (.slice ta k tc)).setCell ⟨w.heap.size,2,none⟩ (.slice la ls.length lc)).drew) O1.out (fun g e=>by
    obtain ⟨cur,hc,hg⟩:=qC5 O1.out e;show ((((w2.setCell _ _).setCell _ _).setCell _ _)).heap[g]? = _
    rw [Below.heap_setCell _ _ _ _ (by show g≠w.heap.size;omega),Below.heap_setCell _ _ _ _ (by show g≠w.heap.size;omega),Below.heap_setCell _ _ _ _ (by show g≠w.heap.size;omega)])
   rw [htk] at q;exact q
  ·exact qA0 SP.out.lk (fun g e=>by
    obtain ⟨cur,hc,hg⟩:=qC6 SP.out.lk e;show ((((w2.setCell _ _).setCell _ _).setCell _ _)).heap[g]? = _
    rw [Below.heap_setCell _ _ _ _ (by show g≠w.heap.size;omega),Below.heap_setCell _ _ _ _ (by show g≠w.heap.size;omega),Below.heap_setCell _ _ _ _ (by show g≠w.heap.size;omega)])
 ·have hkn:¬ k=n:=fun e=>by rw [<- e,HPL.out] at hq;cases hq
  have ht:t=false:=by rw [<- HT.out];simp;omega
  subst ht;exact ⟨_,_,_,_,_,_,rfl⟩

section
theorem qAD (a0 a1 a2 a3 b0 b1 b2 b3:Int):decide ((⟨a0,a1,a2,a3⟩:LkI)=⟨b0,b1,b2,b3⟩)=(a0==b0&&a1==b1&&a2==b2&&a3==b3):=by
 rw [Bool.eq_iff_iff];simp only [decide_eq_true_eq,LkI.mk.injEq,Bool.and_eq_true,beq_iff_eq,and_assoc]
theorem qEE (r s:LkI) (w:World):(binOp .neq 103 (.agg #[.int .i64 r.e,.int .i64 r.c,.int .i64 r.p,.int .i64 r.f]) (.agg #[.int .i64 s.e,.int .i64 s.c,.int .i64 s.p,.int .i64 s.f])).run Tryz.prog w = .ok (.bool (!decide (r=s))) w:=by
 obtain ⟨a0,a1,a2,a3⟩:=r;obtain ⟨b0,b1,b2,b3⟩:=s;simp only;rw [qAD];cases e0:(a0==b0)
 ·simp [go_sem,e0]
 cases e1:(a1==b1)
 ·simp [go_sem,e0,e1]
 cases e2:(a2==b2)
 ·simp [go_sem,e0,e1,e2]
 cases e3:(a3==b3)
 ·simp [go_sem,e0,e1,e2,e3]
 ·simp [go_sem,e0,e1,e2,e3]
attribute [local go_sem ↓] qEE
theorem QK8 (a b:Option Addr) (n m ca cb:Nat) (xs ys:List LkI) (w:World) (hn:n<=1048576) (hm:m<=1048576) (h:qK8 w a n xs) (h':qK8 w b m ys) :
  Calls Tryz.prog 83 #[.slice a n ca,.slice b m cb] w fun e w'=>e = .returned (.bool (decide (xs=ys)))/\Below w.heap.size w w':=by
 have H:Hid (qK8 w a n xs):=h;have H':Hid (qK8 w b m ys):=h';have HX:Hid (xs.length=n):=h.1;have HY:Hid (ys.length=m):=h'.1;clear h h';have hn':(n:Int)<=1048576:=by omega
 have hm':(m:Int)<=1048576:=by omega
 by_cases hnm:n=m
 ·subst hnm;obtain ⟨t,ht⟩:∃ t,decide (xs=ys)=t:=⟨_,rfl⟩;have HT:Hid (decide (xs=ys)=t):=ht;rw [ht];clear ht;go_enter Tryz.func83,Tryz.ntmps83;go_wp2;go_loopw [13] (fun i wr=>∃ k:Nat,k<=n/\i = .int .i64 (k:Int)/\xs.take k=ys.take k/\∃ q,wr=w.drewN q) (fun i _=>n - (intOf i).toNat)
  case atStart=>exact ⟨0,Nat.zero_le _,rfl,by simp,0,rfl⟩
  case round =>
   obtain ⟨k,hk,rfl,htk,q,rfl⟩:=hrel;have HTK:Hid (xs.take k=ys.take k):=htk;clear htk;by_cases hlt:k < n
   ·obtain ⟨b1,o1,s,e1,hs,hr,_⟩:=H.out.at hlt
    obtain ⟨b2,o2,s2,e2,hs2,hr2,_⟩:=H'.out.at hlt
    subst e1 e2;have HS:Hid (xs[k]? = some s):=hs;have HS2:Hid (ys[k]? = some s2):=hs2;have hb1:b1 < w.heap.size:=zL w ⟨b1,_,none⟩ hr.1;have hb2:b2 < w.heap.size:=zL w ⟨b2,_,none⟩ hr2.1;clear hs hs2;obtain ⟨h0,h1,h2,h3⟩:=hr;obtain ⟨g0,g1,g2,g3⟩:=hr2;have hlt':(k:Int) < (n:Int):=by omega
    by_cases hsame:s=s2
    ·have HN:Hid (xs.take (k+1)=ys.take (k+1)):=by
      show xs.take (k+1)=ys.take (k+1)
      rw [List.take_add_one,List.take_add_one,HTK.out,HS.out,HS2.out,hsame]
     have hd:decide (s=s2)=true:=decide_eq_true hsame;skip
     clear hsame;go_wp2;go_quiet (fail)
     go_wp2;exact ⟨⟨k+1,by omega,by go_num,HN.out,_,rfl⟩,by simp [intOf];omega⟩
    ·have HE:Hid (t=false):=by
      show t=false
      rw [<- HT.out];refine decide_eq_false (fun e=>hsame ?_);have h1:=HS.out;rw [e,HS2.out] at h1;exact (Option.some.inj h1).symm
     have hd:decide (s=s2)=false:=decide_eq_false hsame;skip
     clear hsame;go_wp2;go_quiet (fail)
     go_wp2;go_ret;exact ⟨by rw [HE.out];rfl,bdN (bdN (Below.refl _ _) _) _⟩
   ·have hkn:k=n:=by omega
    subst hkn
    have HE:Hid (t=true):=by
     show t=true
     rw [<- HT.out];refine decide_eq_true ?_;have:=HTK.out;rw [List.take_of_length_le (by rw [HX.out];exact Nat.le_refl _),List.take_of_length_le (by rw [HY.out];exact Nat.le_refl _)] at this;exact this
    go_wp2;go_ret;exact ⟨by rw [HE.out];rfl,bdN (Below.refl _ _) _⟩
 ·have HE:Hid (decide (xs=ys)=false):=decide_eq_false (fun e=>hnm (by rw [<- HX.out,<- HY.out,e]));rw [HE.out];have hnb:((n:Int) != (m:Int))=true:=by simp;omega
  have hnm':¬ ((n:Int)=(m:Int)):=by omega
  go_enter Tryz.func83,Tryz.ntmps83;go_wp2;go_ret;exact ⟨rfl,Below.refl _ _⟩
end

theorem qHE (i c v:Int) (w:World):Calls Tryz.prog 106 #[.int .i64 i,.agg #[.int .i64 c,.int .i64 v]] w fun e w'=>e = .returned (.bool (decide (c=0)&&inR i 1 v))/\Below w.heap.size w w':=by
 have hB:Below w.heap.size w (w.alloc (.cells #[.int .i64 c,.int .i64 v] 178)):=zN;unfold inR;by_cases q0:c=0
 ·have b0:(c==0)=true:=by simp [q0]
  by_cases q1:1<=i
  ·by_cases q2:i<=v
   ·have e:(decide (c=0)&&(decide (1<=i)&&decide (i<=v)))=true:=by simp [q0,q1,q2]
    rw [e];clear e q0;go_enter Tryz.func106,Tryz.ntmps106;go_wp2;go_ret;exact ⟨rfl,hB⟩
   ·have e:(decide (c=0)&&(decide (1<=i)&&decide (i<=v)))=false:=by simp [q0,q1,q2]
    rw [e];clear e q0;go_enter Tryz.func106,Tryz.ntmps106;go_wp2;go_ret;exact ⟨rfl,hB⟩
  ·have e:(decide (c=0)&&(decide (1<=i)&&decide (i<=v)))=false:=by simp [q1]
   rw [e];clear e q0;go_enter Tryz.func106,Tryz.ntmps106;go_wp2;go_ret;exact ⟨rfl,hB⟩
 ·have b0:(c==0)=false:=by simp [q0]
  have e:(decide (c=0)&&(decide (1<=i)&&decide (i<=v)))=false:=by simp [q0]
  rw [e];clear e q0;go_enter Tryz.func106,Tryz.ntmps106;go_wp2;go_ret;exact ⟨rfl,hB⟩
/-- A replica's number and what is sure of it are in their bounds. -/
def qI2 (f:Int) (r:qL4):Bool:=inR r.i 1 (3 * f+1)&&inR r.u 0 (r.sn:Int)
theorem qR9 (f:Int) (hf:1<=f/\f<=2) (r:qL4) (w:World) (hsn:r.sn<=1048576) :
  Calls Tryz.prog 81 #[.agg #[.int .i64 r.i,.int .i64 r.u,.slice r.sa r.sn r.sc,.slice r.la r.ln r.lc],.int .i64 f] w fun e w'=>e = .returned (.bool (qI2 f r))/\Below w.heap.size w w':=by
 obtain ⟨t,ht⟩:∃ t,qI2 f r=t:=⟨_,rfl⟩;rw [ht];have hfr:inR f 1 2=true:=by simp [inR];omega
 have HN:Hid (∀ W:World,Calls Tryz.prog 107 #[.int .i64 f] W fun e w'=>e = .returned (.agg #[.int .i64 0,.int .i64 (3 * f+1)])/\Below W.heap.size W w'):=fun W=>by
  have q:=QI0 f W;unfold qDB qGb qKf at q;rw [if_pos hfr,if_pos hfr] at q;exact q
 obtain ⟨t1,ht1⟩:∃ t1,inR r.i 1 (3 * f+1)=t1:=⟨_,rfl⟩
 have HI:Hid (∀ W:World,Calls Tryz.prog 106 #[.int .i64 r.i,.agg #[.int .i64 0,.int .i64 (3 * f+1)]] W fun e w'=>e = .returned (.bool t1)/\Below W.heap.size W w'):=fun W=>by
  have q:=qHE r.i 0 (3 * f+1) W;rw [ht1,show decide ((0:Int)=0)=true from rfl,Bool.true_and] at q;exact q
 obtain ⟨V,hV⟩:∃ V,V=w.alloc (.cells #[.int .i64 r.i,.int .i64 r.u,.slice r.sa r.sn r.sc,.slice r.la r.ln r.lc] 36):=⟨_,rfl⟩;have BV:Hid (Below w.heap.size w V):=by show Below _ _ _;rw [hV];exact zN
 have XV:qV9 w.heap.size [.int .i64 r.i,.int .i64 r.u,.slice r.sa r.sn r.sc,.slice r.la r.ln r.lc] V:=by rw [hV];exact (qE6 w _ _).out
 have hVl:w.heap.size < V.heap.size:=by rw [hV];simp
 have v0:=XV 0 _ rfl;have v1:=XV 1 _ rfl;have v2:=XV 2 _ rfl;have v3:=XV 3 _ rfl;have hsn':(r.sn:Int)<=1048576:=by omega
 clear XV hfr;cases t1
 ·obtain rfl:t=false:=by rw [<- ht];unfold qI2;rw [ht1];rfl
  clear ht ht1;go_enter Tryz.func81,Tryz.ntmps81;go_upto_region 1 with fail
  rw [<- hV];clear hV;refine wp_region_held_drew (S:=fun w'=>(∀ b o,b < V.heap.size->w'.cell? ⟨b,o,none⟩=V.cell? ⟨b,o,none⟩)/\Below V.heap.size V w') (by kernel_rfl) (qC1 _) (fun hHeld=>?_);refine Zk.go [0,1,2] ?_
  iterate 3
   refine Zk.st (v:=?_) rfl ?_ ?_;rotate_left 1
   ·intro w hSw;(try dsimp only at hSw);go_simp;try (with_reducible rfl)
   try simp only [Act.put,zA,zB,zC,zD,zE,zF]
  refine Zk.fin ?_;refine Zk.rd (i:=3) rfl (fun K hK=>?_);go_simp;refine (HN.out _).mono ?_;rintro d wA ⟨rfl,hbA⟩;have hS:=qA9 hHeld hbA;refine hK.out _ _ hS (fun hHeld=>?_);clear hK K;try simp only [Act.put,zA,zB,zC,zD,zE,zF]
  refine Zk.rd (i:=4) rfl (fun K hK=>?_);go_simp;refine (HI.out _).mono ?_;rintro d wB ⟨rfl,hbB⟩;have hS:=qA9 hHeld hbB;refine hK.out _ _ hS (fun hHeld=>?_);clear hK K;try simp only [Act.put,zA,zB,zC,zD,zE,zF]
  refine Zk.go [5,6,7,8,9,10,11,12,13,14,15,16,17] ?_;refine Zk.st (v:=?_) rfl ?_ ?_;rotate_left 1
  ·intro w hSw;(try dsimp only at hSw);go_simp;try (with_reducible rfl)
  try simp only [Act.put,zA,zB,zC,zD,zE,zF]
  iterate 3 (refine Zk.un rfl ?_;try simp only [Act.put,zA,zB,zC,zD,zE,zF])
  iterate 2
   refine Zk.st (v:=?_) rfl ?_ ?_;rotate_left 1
   ·intro w hSw;(try dsimp only at hSw);go_simp;try (with_reducible rfl)
   try simp only [Act.put,zA,zB,zC,zD,zE,zF]
  iterate 6 (refine Zk.un rfl ?_;try simp only [Act.put,zA,zB,zC,zD,zE,zF])
  refine Zk.st (v:=?_) rfl ?_ ?_;rotate_left 1
  ·intro w hSw;(try dsimp only at hSw);go_simp;try (with_reducible rfl)
  try simp only [Act.put,zA,zB,zC,zD,zE,zF]
  refine Zk.fin ?_;refine Zk.rd (i:=18) rfl (fun K hK=>?_);go_simp;refine hK.out _ _ (by assumption) (fun hHeld=>?_);clear hK K;try simp only [Act.put,zA,zB,zC,zD,zE,zF]
  refine wpAnyH_done (by kernel_rfl) ?_ _;go_wp2;go_ret;exact ⟨rfl,BV.out.trans (hHeld.2.mono BV.out.size)⟩
 ·by_cases hu:0<=r.u
  ·by_cases hu2:r.u<=(r.sn:Int)
   ·obtain rfl:t=true:=by rw [<- ht];unfold qI2;rw [ht1];simp [inR,hu,hu2]
    clear ht ht1;go_enter Tryz.func81,Tryz.ntmps81;go_upto_region 1 with fail
    rw [<- hV];clear hV;refine wp_region_held_drew (S:=fun w'=>(∀ b o,b < V.heap.size->w'.cell? ⟨b,o,none⟩=V.cell? ⟨b,o,none⟩)/\Below V.heap.size V w') (by kernel_rfl) (qC1 _) (fun hHeld=>?_);refine Zk.go [0,1,2] ?_
    iterate 3
     refine Zk.st (v:=?_) rfl ?_ ?_;rotate_left 1
     ·intro w hSw;(try dsimp only at hSw);go_simp;try (with_reducible rfl)
     try simp only [Act.put,zA,zB,zC,zD,zE,zF]
    refine Zk.fin ?_;refine Zk.rd (i:=3) rfl (fun K hK=>?_);go_simp;refine (HN.out _).mono ?_;rintro d wA ⟨rfl,hbA⟩;have hS:=qA9 hHeld hbA;refine hK.out _ _ hS (fun hHeld=>?_);clear hK K;try simp only [Act.put,zA,zB,zC,zD,zE,zF]
    refine Zk.rd (i:=4) rfl (fun K hK=>?_);go_simp;refine (HI.out _).mono ?_;rintro d wB ⟨rfl,hbB⟩;have hS:=qA9 hHeld hbB;refine hK.out _ _ hS (fun hHeld=>?_);clear hK K;try simp only [Act.put,zA,zB,zC,zD,zE,zF]
    refine Zk.go [5,6,7,8,9,10,11,12,13,14,15,16,17] ?_
    iterate 13
     refine Zk.st (v:=?_) rfl ?_ ?_;rotate_left 1
     ·intro w hSw;(try dsimp only at hSw);go_simp;try (with_reducible rfl)
     try simp only [Act.put,zA,zB,zC,zD,zE,zF]
    refine Zk.fin ?_;refine Zk.rd (i:=18) rfl (fun K hK=>?_);go_simp;refine hK.out _ _ (by assumption) (fun hHeld=>?_);clear hK K;try simp only [Act.put,zA,zB,zC,zD,zE,zF]
    refine wpAnyH_done (by kernel_rfl) ?_ _;go_wp2;go_ret;exact ⟨rfl,BV.out.trans (hHeld.2.mono BV.out.size)⟩
   ·obtain rfl:t=false:=by rw [<- ht];unfold qI2;rw [ht1];simp [inR,hu,hu2]
    clear ht ht1;go_enter Tryz.func81,Tryz.ntmps81;go_upto_region 1 with fail
    rw [<- hV];clear hV;refine wp_region_held_drew (S:=fun w'=>(∀ b o,b < V.heap.size->w'.cell? ⟨b,o,none⟩=V.cell? ⟨b,o,none⟩)/\Below V.heap.size V w') (by kernel_rfl) (qC1 _) (fun hHeld=>?_);refine Zk.go [0,1,2] ?_
    iterate 3
     refine Zk.st (v:=?_) rfl ?_ ?_;rotate_left 1
     ·intro w hSw;(try dsimp only at hSw);go_simp;try (with_reducible rfl)
     try simp only [Act.put,zA,zB,zC,zD,zE,zF]
    refine Zk.fin ?_;refine Zk.rd (i:=3) rfl (fun K hK=>?_);go_simp;refine (HN.out _).mono ?_;rintro d wA ⟨rfl,hbA⟩;have hS:=qA9 hHeld hbA;refine hK.out _ _ hS (fun hHeld=>?_);clear hK K;try simp only [Act.put,zA,zB,zC,zD,zE,zF]
    refine Zk.rd (i:=4) rfl (fun K hK=>?_);go_simp;refine (HI.out _).mono ?_;rintro d wB ⟨rfl,hbB⟩;have hS:=qA9 hHeld hbB;refine hK.out _ _ hS (fun hHeld=>?_);clear hK K;try simp only [Act.put,zA,zB,zC,zD,zE,zF]
    refine Zk.go [5,6,7,8,9,10,11,12,13,14,15,16,17] ?_
    iterate 13
     refine Zk.st (v:=?_) rfl ?_ ?_;rotate_left 1
     ·intro w hSw;(try dsimp only at hSw);go_simp;try (with_reducible rfl)
     try simp only [Act.put,zA,zB,zC,zD,zE,zF]
    refine Zk.fin ?_;refine Zk.rd (i:=18) rfl (fun K hK=>?_);go_simp;refine hK.out _ _ (by assumption) (fun hHeld=>?_);clear hK K;try simp only [Act.put,zA,zB,zC,zD,zE,zF]
    refine wpAnyH_done (by kernel_rfl) ?_ _;go_wp2;go_ret;exact ⟨rfl,BV.out.trans (hHeld.2.mono BV.out.size)⟩
  ·obtain rfl:t=false:=by rw [<- ht];unfold qI2;rw [ht1];simp [inR,hu]
   clear ht ht1;go_enter Tryz.func81,Tryz.ntmps81;go_upto_region 1 with fail
   rw [<- hV];clear hV;refine wp_region_held_drew (S:=fun w'=>(∀ b o,b < V.heap.size->w'.cell? ⟨b,o,none⟩=V.cell? ⟨b,o,none⟩)/\Below V.heap.size V w') (by kernel_rfl) (qC1 _) (fun hHeld=>?_);refine Zk.go [0,1,2] ?_
   iterate 3
    refine Zk.st (v:=?_) rfl ?_ ?_;rotate_left 1
    ·intro w hSw;(try dsimp only at hSw);go_simp;try (with_reducible rfl)
    try simp only [Act.put,zA,zB,zC,zD,zE,zF]
   refine Zk.fin ?_;refine Zk.rd (i:=3) rfl (fun K hK=>?_);go_simp;refine (HN.out _).mono ?_;rintro d wA ⟨rfl,hbA⟩;have hS:=qA9 hHeld hbA;refine hK.out _ _ hS (fun hHeld=>?_);clear hK K;try simp only [Act.put,zA,zB,zC,zD,zE,zF]
   refine Zk.rd (i:=4) rfl (fun K hK=>?_);go_simp;refine (HI.out _).mono ?_;rintro d wB ⟨rfl,hbB⟩;have hS:=qA9 hHeld hbB;refine hK.out _ _ hS (fun hHeld=>?_);clear hK K;try simp only [Act.put,zA,zB,zC,zD,zE,zF]
   refine Zk.go [5,6,7,8,9,10,11,12,13,14,15,16,17] ?_
   iterate 6
    refine Zk.st (v:=?_) rfl ?_ ?_;rotate_left 1
    ·intro w hSw;(try dsimp only at hSw);go_simp;try (with_reducible rfl)
    try simp only [Act.put,zA,zB,zC,zD,zE,zF]
   iterate 6 (refine Zk.un rfl ?_;try simp only [Act.put,zA,zB,zC,zD,zE,zF])
   refine Zk.st (v:=?_) rfl ?_ ?_;rotate_left 1
   ·intro w hSw;(try dsimp only at hSw);go_simp;try (with_reducible rfl)
   try simp only [Act.put,zA,zB,zC,zD,zE,zF]
   refine Zk.fin ?_;refine Zk.rd (i:=18) rfl (fun K hK=>?_);go_simp;refine hK.out _ _ (by assumption) (fun hHeld=>?_);clear hK K;try simp only [Act.put,zA,zB,zC,zD,zE,zF]
   refine wpAnyH_done (by kernel_rfl) ?_ _;go_wp2;go_ret;exact ⟨rfl,BV.out.trans (hHeld.2.mono BV.out.size)⟩
