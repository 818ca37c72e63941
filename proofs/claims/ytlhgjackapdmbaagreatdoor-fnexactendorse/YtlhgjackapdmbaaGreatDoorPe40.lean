/- Contracts. -/
import Derived.Test.YtlhgjackapdmbaaGreatDoorPe39
namespace Go.Proofs.YtlhgjackapdmbaaGreatDoor
set_option maxRecDepth 100000
set_option maxHeartbeats 8000000
open Go.RowKit
set_option linter.unusedVariables false
set_option linter.unusedSimpArgs false

theorem endorse_said (E:qI1) (b B:Nat) (a:Option Addr) (m cap:Nat) (cs:List qA5) (sa:Option Addr) (sc:Nat) (said:List StI) (la:Option Addr) (lc:Nat) (ls:List LkI) (x:StI) (w:World) (hS:qH2 w b B (.slice a m cap) sa sc said la lc ls) (hEC:qO2 E cs) (hSt:qT1 w B a m cs) (hm:0 < m) (hm8:m≤8) (hRp:RpS E said ls) (hst:qC3 x=0) (hsx:qD8 said x=true)  :
  Calls Tryz.prog 50 #[.pointer (some ⟨b,0,none⟩),.agg #[.int .i64 x.k,.int .i64 x.e,.int .i64 x.f,.int .i64 x.s,.int .i64 x.n]] w fun d w'=>d = .returned (.int .i64 0)∧qH2 w' b B (.slice a m cap) sa sc said la lc ls∧Below B w w':=by
 obtain ⟨⟨hk1,hk2⟩,⟨he1,he2⟩,⟨hn1,hn2⟩,_⟩:=qI2 hst
 have hlen:=hRp.len
 have hrows:=hS.rows
 have hbl:=hS.lt
 have HST:Hid (qT1 w B a m cs):=hSt
 have HEC:Hid (qO2 E cs):=hEC
 have HRP:Hid (RpS E said ls):=hRp
 have hml:cs.length=m:=(hSt w (Below.refl _ _)).1.1
 have HNX:Hid (∀ x∈said,x.k=4→0≤x.n∧x.n < (m:Int)):=fun y hy hk=>by
  have:=hRp.nx y hy hk
  rw [hEC.es,List.length_map,hml] at this
  exact this
 obtain ⟨V,hV⟩:∃ V,V=qE3 w b x:=⟨_,rfl⟩
 have HV:Hid (V=qE3 w b x):=hV
 have E0:qN1 w.heap.size b x 0 V:=by rw [hV];exact qN1.new w b x
 have B0:Below w.heap.size w V:=by rw [hV];exact qE3.below w b x
 have HS0:Hid (qH2 V b B (.slice a m cap) sa sc said la lc ls):=hS.below B0
 have HB0:Hid (Below w.heap.size w V):=B0
 have HE0:Hid (qN1 w.heap.size b x 0 V):=E0
 have hBb:=hS.hb
 have HF:Hid (∀ W:World,Calls Tryz.prog 79 #[.agg #[.int .i64 x.k,.int .i64 x.e,.int .i64 x.f,.int .i64 x.s,.int .i64 x.n]] W fun e w'=>e = .returned (.int .i64 0)∧Below W.heap.size W w'):=fun W=>by rw [← hst];exact qC0 x W
 have HCN:Hid (∀ W:World,qH2 W b B (.slice a m cap) sa sc said la lc ls→Calls Tryz.prog 80 #[.slice sa said.length sc,.agg #[.int .i64 x.k,.int .i64 x.e,.int .i64 x.f,.int .i64 x.s,.int .i64 x.n]] W fun e w'=>e = .returned (.bool true)∧Below W.heap.size W w'):=fun W q=>by rw [← hsx];exact qF8 sa said.length sc said x W (by omega) q.stIn
 have HSE:Hid (qH2 w b B (.slice a m cap) sa sc said la lc ls):=hS
 have hmf:∀ (fn:Fn) (first cap:Array Value) (w:World),(Instr.makeFunc fn first cap).run Tryz.prog w = .ok (.func fn first cap) w:=fun _ _ _ _=>rfl
 have HRW:Hid ((∀ g,(Value.slice sa said.length sc).ownBlock=some g→g < w.heap.size)∧(∀ g,(Value.slice la ls.length lc).ownBlock=some g→g < w.heap.size)):=hrows
 clear hS hEC hSt hRp B0 hV E0 hst hsx hrows hml
 go_enter Tryz.func50,Tryz.ntmps50
 go_wp2_with fail
 rw [show ((w.alloc (.cells #[.pointer (some ⟨b,0,none⟩)] 110)).alloc (.cells #[.int .i64 x.k,.int .i64 x.e,.int .i64 x.f,.int .i64 x.s,.int .i64 x.n] 43)).alloc (.cells #[.int .i64 0] 2)=V from HV.out.symm]
 refine (HF.out _).mono ?_
 rintro d w1 ⟨rfl,hb1⟩
 have E1:=HE0.out.below hb1
 have e1:=E1.c
 have f1:=E1.f
 have l1:=E1.lt
 have E2:=E1.put 0
 have S2:qH2 (w1.setCell ⟨w.heap.size+1+1,0,none⟩ (.int .i64 0)) b B (.slice a m cap) sa sc said la lc ls:=(HS0.out.below hb1).other (fun g hg=>by
  show g≠w.heap.size+1+1
  rcases hg with q | q | q
  ·have:=HRW.out.1 g q;omega
  ·have:=HRW.out.2 g q;omega
  ·omega) _
 have B2:Hid (Below B w (w1.setCell ⟨w.heap.size+1+1,0,none⟩ (.int .i64 0))):=((HB0.out.trans (hb1.mono HB0.out.size)).mono (by omega)).setCell (by show B≤w.heap.size+1+1;omega) _
 go_upto_region 2 with fail
 generalize w1.setCell ⟨w.heap.size+1+1,0,none⟩ (.int .i64 0)=w2 at *
 clear e1 f1 l1 E1 hb1
 refine wp_region_held_drew (S:=fun w'=>qN1 w.heap.size b x 0 w'∧qH2 w' b B (.slice a m cap) sa sc said la lc ls) (by kernel_rfl) (⟨E2.below (Below.refl _ _).drew,S2.below (Below.refl _ _).drew⟩) (fun hHeld=>?_)
 refine Zk.go [0,1,2,3,4,5,6,7] ?_
 iterate 8
  refine Zk.st (v:=?_) rfl ?_ ?_
  rotate_left 1
  ·intro w hSw;have p0:=hSw.1.s;have p1:=hSw.1.x0;have p2:=hSw.1.x1;have p3:=hSw.1.x2;have p4:=hSw.1.x3;have p5:=hSw.1.x4;have p6:=hSw.1.c;have p7:=hSw.2.spk.c1;clear hSw;go_simp;try (with_reducible rfl)
  try simp only [Act.put,zA,zB,zC,zD,zE,zF]
 refine Zk.fin ?_
 refine Zk.rd (i:=8) rfl (fun K hK=>?_)
 go_simp
 refine (HCN.out _ hHeld.2).mono ?_
 rintro d w3 ⟨rfl,hb3⟩
 have hS:qN1 w.heap.size b x 0 w3∧qH2 w3 b B (.slice a m cap) sa sc said la lc ls:=⟨hHeld.1.below hb3,hHeld.2.below hb3⟩
 have hB3:Below B w w3:=B2.out.drew.trans (hb3.mono (by have:=B2.out.size;show B≤w2.heap.size;omega))
 refine hK.out _ _ hS (fun hHeld=>?_)
 clear hK K
 try simp only [Act.put,zA,zB,zC,zD,zE,zF]
 refine Zk.go [9] ?_
 refine Zk.st (v:=?_) rfl ?_ ?_
 rotate_left 1
 ·intro w hSw;have p0:=hSw.1.s;have p1:=hSw.1.x0;have p2:=hSw.1.x1;have p3:=hSw.1.x2;have p4:=hSw.1.x3;have p5:=hSw.1.x4;have p6:=hSw.1.c;have p7:=hSw.2.spk.c1;clear hSw;go_simp;try (with_reducible rfl)
 try simp only [Act.put,zA,zB,zC,zD,zE,zF]
 refine Zk.fin ?_
 refine wpAnyH_done (by kernel_rfl) ?_ _
 have p6:=hS.1.c
 have p6f:=hS.1.f
 have p6l:=hS.1.lt
 have S4:qH2 (w3.setCell ⟨w.heap.size+1+1,0,none⟩ (.int .i64 0)) b B (.slice a m cap) sa sc said la lc ls:=hS.2.other (fun g hg=>by
  show g≠w.heap.size+1+1
  rcases hg with q | q | q
  ·have:=HRW.out.1 g q;omega
  ·have:=HRW.out.2 g q;omega
  ·omega) _
 have B4:=hB3.setCell (p:=⟨w.heap.size+1+1,0,none⟩) (by show B≤w.heap.size+1+1;omega) (.int .i64 0)
 have H4:=qC8 S4
 clear hHeld hS hB3 hb3 E2 S2 B2 S4
 go_wp2_with fail
 exact bodyPost_ret (v:=.int .i64 0) (by simp [results,Tryz.results50,go_sem,p6,p6l]) rfl ⟨rfl,H4.out,B4⟩
def EndQ (E:qI1) (w:World) (b B:Nat) (cv:Value) (sa:Option Addr) (sc:Nat) (said:List StI) (la:Option Addr) (lc:Nat) (ls:List LkI) (x:StI) (d:Ending) (w':World):Prop :=
 d = .returned (.int .i64 (qE1 E said ls x))∧Below B w w'∧((qE1 E said ls x≠0∨qD8 said x=true)→qH2 w' b B cv sa sc said la lc ls)∧(qE1 E said ls x=0→qD8 said x=false→∃ sa' sc' la' lc',qH2 w' b B cv sa' sc' (said++[x]) la' lc' (qD9 E said ls x))
theorem QG4 {E:qI1} {w:World} {b B:Nat} {cv:Value} {sa:Option Addr} {sc:Nat} {said:List StI} {la:Option Addr} {lc:Nat} {ls:List LkI} {x:StI} {k:Int} {L:List LkI} {d:Ending} {w':World} (hst:qC3 x=0) (hsx:qD8 said x=false) (hk:qG0 E said ls x=k) (hL:k=0→qD9 E said ls x=L) (h:EndP w b B cv sa sc said la lc ls x k L d w'):EndQ E w b B cv sa sc said la lc ls x d w':=by
 have e:qE1 E said ls x=k:=by
  unfold qE1
  rw [if_pos hst,hsx,if_neg (by decide),hk]
 obtain ⟨h1,h2,h3,h4⟩:=h
 refine ⟨by rw [e];exact h1,h4,fun q=>?_,fun q _=>?_⟩
 ·rw [e,hsx] at q
  exact h2 (q.elim id (fun q=>by cases q))
 ·rw [e] at q
  rw [hL q]
  exact h3 q
theorem endorse_c (E:qI1) (b B:Nat) (a:Option Addr) (m cap:Nat) (cs:List qA5) (sa:Option Addr) (sc:Nat) (said:List StI) (la:Option Addr) (lc:Nat) (ls:List LkI) (x:StI) (w:World) (hS:qH2 w b B (.slice a m cap) sa sc said la lc ls) (hEC:qO2 E cs) (hSt:qT1 w B a m cs) (hm:0 < m) (hm8:m≤8) (hRp:RpS E said ls) :
  Calls Tryz.prog 50 #[.pointer (some ⟨b,0,none⟩),.agg #[.int .i64 x.k,.int .i64 x.e,.int .i64 x.f,.int .i64 x.s,.int .i64 x.n]] w fun d w'=>EndQ E w b B (.slice a m cap) sa sc said la lc ls x d w':=by
 have hlen:=hRp.len
 have hBw:B≤w.heap.size:=Nat.le_trans hS.hb (Nat.le_of_lt hS.lt)
 by_cases hst:qC3 x=0
 ·cases hsx:qD8 said x
  ·have hml:cs.length=m:=(hSt w (Below.refl _ _)).1.1
   have hel:E.es.length=m:=by rw [hEC.es,List.length_map,hml]
   obtain ⟨⟨hk1,hk2⟩,_⟩:=qI2 hst
   rcases known_in hRp (by omega) x.e with hkn | ⟨hp0,hpl⟩
   ·have hneg:qB5 E said x.e < 0:=by omega
    refine (endorse_none E b B a m cap cs sa sc said la lc ls x w hS hEC hSt hm hm8 hRp hst hsx hneg []).mono fun d w' h=>QG4 hst hsx ?_ (fun q=>by cases q) h
    unfold qG0
    rw [if_pos hneg]
   ·obtain ⟨c,hpc⟩:∃ c,cs[(qB5 E said x.e).toNat]? = some c:=⟨_,List.getElem?_eq_getElem (by omega)⟩
    have hneg:¬ qB5 E said x.e < 0:=by omega
    by_cases h40:40≤said.length
    ·refine (endorse_many E b B a m cap cs sa sc said la lc ls x w hS hEC hSt hm hm8 hRp hst hsx c hp0 hpc h40 []).mono fun d w' h=>QG4 hst hsx ?_ (fun q=>by cases q) h
     unfold qG0
     rw [if_neg hneg,if_pos h40]
    ·by_cases k1:x.k=1
     ·obtain ⟨_,gs,hg,hal,hcl⟩:=hEC.cf _ c hpc
      have hnk:qG0 E said ls x=qH7 E said ls (qB5 E said x.e).toNat x:=by
       unfold qG0
       rw [if_neg hneg,if_neg h40,if_pos k1]
      have hnl:qD9 E said ls x=qL1 ls c.cs x.e x.f x.s:=by
       unfold qD9
       rw [if_pos k1,hcl]
      cases hse:(qU4 said x.e || qD8 said (qT0 x))
      ·cases hw:alW (qA6 c.fs) gs x.f x.s
       ·refine (QP6 E b B a m cap cs sa sc said la lc ls x w hS hEC hSt hm hm8 hRp hst hsx c hp0 hpc (by omega) k1 gs hg hse hw []).mono fun d w' h=>QG4 hst hsx ?_ (fun q=>by cases q) h
        rw [hnk]
        unfold qH7
        rw [if_neg (by rw [hse];decide),hal,hw,if_pos rfl]
       ·refine (QV7 E b B a m cap cs sa sc said la lc ls x w hS hEC hSt hm hm8 hRp hst hsx c hp0 hpc (by omega) k1 gs hg hse hw _ rfl _ rfl).mono fun d w' h=>QG4 hst hsx ?_ (fun q=>hnl) h
        rw [hnk]
        unfold qH7
        rw [if_neg (by rw [hse];decide),hal,hw,if_neg (by decide),hcl]
      ·refine (endorse_old E b B a m cap cs sa sc said la lc ls x w hS hEC hSt hm hm8 hRp hst hsx c hp0 hpc (by omega) k1 gs hg hse []).mono fun d w' h=>QG4 hst hsx ?_ (fun q=>by cases q) h
       rw [hnk]
       unfold qH7
       rw [if_pos hse]
     ·have hnl:qD9 E said ls x=ls:=by
       unfold qD9
       rw [if_neg k1]
      by_cases k2:x.k=2
      ·refine (QP5 E b B a m cap cs sa sc said la lc ls x w hS hEC hSt hm hm8 hRp hst hsx c hp0 hpc (by omega) k2).mono fun d w' h=>QG4 hst hsx ?_ (fun _=>hnl) h
       unfold qG0
       rw [if_neg hneg,if_neg h40,if_neg k1,if_pos k2]
      ·have hnk:qG0 E said ls x=qD1 E said x:=by
        unfold qG0
        rw [if_neg hneg,if_neg h40,if_neg k1,if_neg k2]
       by_cases k3:x.k=3
       ·exact (endorse_next E b B a m cap cs sa sc said la lc ls x w hS hEC hSt hm hm8 hRp hst hsx c hp0 hpc (by omega) k3 _ rfl).mono fun d w' h=>QG4 hst hsx hnk (fun _=>hnl) h
       ·exact (endorse_take E b B a m cap cs sa sc said la lc ls x w hS hEC hSt hm hm8 hRp hst hsx c hp0 hpc (by omega) (by omega) _ rfl).mono fun d w' h=>QG4 hst hsx hnk (fun _=>hnl) h
  ·refine (endorse_said E b B a m cap cs sa sc said la lc ls x w hS hEC hSt hm hm8 hRp hst hsx).mono fun d w' h=>?_
   have e:qE1 E said ls x=0:=by
    unfold qE1
    rw [if_pos hst,if_pos hsx]
   exact ⟨by rw [e];exact h.1,h.2.2,fun _=>h.2.1,fun _ q=>by rw [hsx] at q;cases q⟩
 ·refine (QV8 b _ _ sa said.length sc said x w hS.spk hS.stIn (by omega) hst).mono fun d w' h=>?_
  have e:qE1 E said ls x=qC3 x:=by
   unfold qE1
   rw [if_neg hst]
  exact ⟨by rw [e];exact h.1,h.2.mono hBw,fun _=>hS.below h.2,fun q _=>absurd (e ▸ q) hst⟩

theorem QV2 (W:World) (o:Obj):(W.alloc o).heap[W.heap.size]? = some o:=by
 show (W.heap.push o)[W.heap.size]? = _
 simp
def SpkR (a:Option Addr) (m cap:Nat) (xs:List StI) (n:Nat) (o:Option (List LkI)) (w:World) (d:Ending) (w':World):Prop :=
 Below w.heap.size w w'∧(∀ ls,o=some ls→∃ (sa:Option Addr) (sc:Nat) (la:Option Addr) (lc:Nat),d = .returned (.tuple #[.agg #[.slice a m cap,.slice sa n sc,.slice la ls.length lc],.bool true])∧qB1 w' (w.heap.size+1) (.slice sa n sc) xs∧qA4 w' (w.heap.size+1) (.slice la ls.length lc) ls)∧(o=none→∃ (sa:Option Addr) (sn sc:Nat) (la:Option Addr) (ln lc:Nat),d = .returned (.tuple #[.agg #[.slice a m cap,.slice sa sn sc,.slice la ln lc],.bool false]))
structure EUL (E:qI1) (w:World) (b B:Nat) (cv:Value) (xs:List StI) (k:Nat) (ls:List LkI) (wr:World):Prop where
 pl:qF6 E xs k=some ls
 sp:∃ sa sc la lc,qH2 wr b B cv sa sc (xs.take k) la lc ls
 bl:Below B w wr
def UpR (E:qI1) (w:World) (b B:Nat) (cv:Value) (xs:List StI) (n:Nat) (d:Ending) (w':World):Prop :=
 d = .returned (.tuple #[])∧∃ (k:Nat) (ls:List LkI),k≤n∧EUL E w b B cv xs k ls w'∧(k=n∨qF6 E xs (k+1)=none)
theorem UpR.mk {E:qI1} {w:World} {b B:Nat} {cv:Value} {xs:List StI} {n:Nat} {w':World} {k:Nat} {ls:List LkI} (hk:k≤n) (h:EUL E w b B cv xs k ls w') (he:k=n∨qF6 E xs (k+1)=none):UpR E w b B cv xs n (.returned (.tuple #[])) w':=⟨rfl,k,ls,hk,h,he⟩
theorem QH9 {E:qI1} {xs:List StI} {k:Nat} {ls:List LkI} {x:StI} (h:qF6 E xs k=some ls) (hx:xs[k]? = some x) (q:qE1 E (xs.take k) ls x≠0∨qD8 (xs.take k) x=true):qF6 E xs (k+1)=none:=by
 rw [QK5 h hx]
 rcases q with q | q
 ·split
  ·rfl
  ·first | rfl | rw [if_neg q]
 ·rw [if_pos q]
theorem QZ0 {E:qI1} {xs:List StI} {k:Nat} {ls:List LkI} {x:StI} (h:qF6 E xs k=some ls) (hx:xs[k]? = some x) (q:qE1 E (xs.take k) ls x=0) (q2:qD8 (xs.take k) x=false):qF6 E xs (k+1)=some (qD9 E (xs.take k) ls x):=by
 rw [QK5 h hx,q2,if_neg (by decide),if_pos q]
theorem QV9 (E:qI1) (b B:Nat) (a:Option Addr) (m cap:Nat) (cs:List qA5) (s0:Option Addr) (sc0:Nat) (l0:Option Addr) (lc0:Nat) (sa:Option Addr) (n sc:Nat) (xs:List StI) (w:World) (hS:qH2 w b B (.slice a m cap) s0 sc0 [] l0 lc0 []) (hEC:qO2 E cs) (hSt:qT1 w B a m cs) (hm:0 < m) (hm8:m≤8) (h:∀ W,Below B w W→qM5 W sa n xs) (hn:n≤1048576) :
  Calls Tryz.prog 85 #[.pointer (some ⟨b,0,none⟩),.slice sa n sc] w fun d w'=>UpR E w b B (.slice a m cap) xs n d w':=by
 have HEC:Hid (qO2 E cs):=hEC
 have HST:Hid (qT1 w B a m cs):=hSt
 have HX:Hid (∀ W,Below B w W→qM5 W sa n xs):=h
 have hn':(n:Int)≤1048576:=by omega
 have hxl:xs.length=n:=(h w (Below.refl _ _)).1
 have HXL:Hid (xs.length=n):=hxl
 have L0:Hid (EUL E w b B (.slice a m cap) xs 0 [] w):=⟨rfl,⟨s0,sc0,l0,lc0,hS⟩,Below.refl _ _⟩
 clear hEC hSt h hxl hS
 go_enter Tryz.func85,Tryz.ntmps85
 go_wp2_with fail
 go_loopw [9] (fun i wr=>∃ (k:Nat) (ls:List LkI),k≤n∧i = .int .i64 (k:Int)∧Hid (EUL E w b B (.slice a m cap) xs k ls wr)) (fun i _=>n - (intOf i).toNat)
 case atStart=>exact ⟨0,[],Nat.zero_le _,rfl,L0⟩
 case round =>
  clear L0
  obtain ⟨k,ls,hk,rfl,LK⟩:=hrel
  obtain ⟨ta,tc,la,lc,hsp⟩:=LK.out.sp
  have SP:Hid (qH2 wr b B (.slice a m cap) ta tc (xs.take k) la lc ls):=hsp
  have hBw:B≤wr.heap.size:=Nat.le_of_lt (Nat.lt_of_le_of_lt hsp.hb hsp.lt)
  clear hsp
  by_cases hlt:k < n
  ·have hlt':(k:Int) < (n:Int):=by omega
   obtain ⟨bx,off,x,ea,hx,hat,hbl⟩:=(HX.out wr LK.out.bl).at hlt
   subst ea
   have HXK:Hid (xs[k]? = some x):=hx
   clear hx
   obtain ⟨e,he⟩:∃ e,qE1 E (xs.take k) ls x=e:=⟨_,rfl⟩
   have HE:Hid (qE1 E (xs.take k) ls x=e):=he
   have hRp:RpS E (xs.take k) ls:=QF3 k ls (by have:=HXL.out;omega) LK.out.pl
   obtain ⟨Y,hY⟩:∃ Y,Y=wr.alloc (.cells #[.int .i64 x.k,.int .i64 x.e,.int .i64 x.f,.int .i64 x.s,.int .i64 x.n] 43):=⟨_,rfl⟩
   have AY:Below wr.heap.size wr Y:=by rw [hY];exact zN
   have BY:Below B w Y:=LK.out.bl.trans (AY.mono hBw)
   have HB:Hid (Below B w Y):=BY
   have HPL:Hid (qF6 E xs k=some ls):=LK.out.pl
   have SY:Hid (qH2 Y b B (.slice a m cap) ta tc (xs.take k) la lc ls):=SP.out.below AY
   have HYK:Hid ((xs.take k).length=k):=by show _=_;rw [List.length_take];have:=HXL.out;omega
   have HEN:Hid (Calls Tryz.prog 50 #[.pointer (some ⟨b,0,none⟩),.agg #[.int .i64 x.k,.int .i64 x.e,.int .i64 x.f,.int .i64 x.s,.int .i64 x.n]] Y fun d w'=>d = .returned (.int .i64 e)∧Below B Y w'∧((e≠0∨qD8 (xs.take k) x=true)→qH2 w' b B (.slice a m cap) ta tc (xs.take k) la lc ls)∧(e=0→qD8 (xs.take k) x=false→∃ sa' sc' la' lc',qH2 w' b B (.slice a m cap) sa' sc' (xs.take k++[x]) la' lc' (qD9 E (xs.take k) ls x))):=by
    have q:=endorse_c E b B a m cap cs ta tc (xs.take k) la lc ls x Y SY.out HEC.out (fun W hW=>HST.out W (BY.trans hW)) hm hm8 hRp
    unfold EndQ at q
    rw [he] at q
    exact q
   obtain ⟨h0,h1,h2,h3,h4⟩:=hat
   clear LK SP hRp he BY AY
   go_upto_region 3 with fail
   rw [← hY]
   have y0:Y.cell? ⟨wr.heap.size,0,none⟩=some (.int .i64 x.k):=by rw [hY];simp [go_sem]
   have y1:Y.cell? ⟨wr.heap.size,1,none⟩=some (.int .i64 x.e):=by rw [hY];simp [go_sem]
   have y2:Y.cell? ⟨wr.heap.size,2,none⟩=some (.int .i64 x.f):=by rw [hY];simp [go_sem]
   have y3:Y.cell? ⟨wr.heap.size,3,none⟩=some (.int .i64 x.s):=by rw [hY];simp [go_sem]
   have y4:Y.cell? ⟨wr.heap.size,4,none⟩=some (.int .i64 x.n):=by rw [hY];simp [go_sem]
   have hyl:=zL _ _ y0
   have s1:Y.cell? ⟨b,1,none⟩=some (.slice ta k tc):=by
    have q:=SY.out.spk.c1
    rw [HYK.out] at q
    exact q
   have hsl:=SY.out.lt
   clear hY h0 h1 h2 h3 h4 SY
   go_wp2_with fail
   refine HEN.out.mono ?_
   rintro d w2 ⟨rfl,hb2,hs1,hs2⟩
   clear HEN y0 y1 y2 y3 y4 s1 hsl
   have B2:Hid (Below B w w2):=HB.out.trans hb2
   clear HB hb2
   by_cases e0:e=0
   ·subst e0
    cases hsx:qD8 (xs.take k) x
    ·obtain ⟨sa',sc',la',lc',hS⟩:=hs2 rfl hsx
     have hpm:=QZ0 HPL.out HXK.out HE.out hsx
     have ht:xs.take (k+1)=xs.take k++[x]:=by rw [List.take_add_one,HXK.out];rfl
     have S3:Hid (EUL E w b B (.slice a m cap) xs (k+1) (qD9 E (xs.take k) ls x) w2):=⟨hpm,⟨sa',sc',la',lc',by rw [ht];exact hS⟩,B2.out⟩
     have s1:w2.cell? ⟨b,1,none⟩=some (.slice sa' (k+1) sc'):=by
      have q:=hS.spk.c1
      rw [List.length_append,HYK.out] at q
      exact q
     have hsl:=hS.lt
     have hne:(((k:Int)+1)==(k:Int))=false:=by simp;omega
     clear hs1 hs2 hS hpm ht hsx
     go_wp2_with fail
     exact ⟨⟨k+1,_,by omega,by go_num,S3⟩,by simp [intOf];omega⟩
    ·have hS:=hs1 (.inr hsx)
     have hpn:qF6 E xs (k+1)=none:=QH9 HPL.out HXK.out (.inr hsx)
     have S3:Hid (EUL E w b B (.slice a m cap) xs k ls w2):=⟨HPL.out,⟨ta,tc,la,lc,hS⟩,B2.out⟩
     have s1:w2.cell? ⟨b,1,none⟩=some (.slice ta k tc):=by
      have q:=hS.spk.c1
      rw [HYK.out] at q
      exact q
     have hsl:=hS.lt
     have HPN:=qC8 hpn
     clear hs1 hs2 hS hpn hsx
     go_wp2_with fail
     first | go_end0 | go_returns
     exact UpR.mk hk S3.out (.inr HPN.out)
   ·have eb:(e != 0)=true:=by simp [e0]
    have hS:=hs1 (.inl e0)
    have hpn:qF6 E xs (k+1)=none:=QH9 HPL.out HXK.out (.inl (by rw [HE.out];exact e0))
    have S3:Hid (EUL E w b B (.slice a m cap) xs k ls w2):=⟨HPL.out,⟨ta,tc,la,lc,hS⟩,B2.out⟩
    have HPN:=qC8 hpn
    clear hs1 hs2 hpn hS
    go_wp2_with fail
    first | go_end0 | go_returns
    exact UpR.mk hk S3.out (.inr HPN.out)
  ·have hkn:k=n:=by omega
   have hlt':¬ ((k:Int) < (n:Int)):=by omega
   clear SP
   go_wp2_with fail
   first | go_end0 | go_returns
   exact UpR.mk hk LK.out (.inl hkn)
theorem QB8 (E:qI1) (a:Option Addr) (m cap:Nat) (cs:List qA5) (sa:Option Addr) (n sc:Nat) (xs:List StI) (w:World) (hEC:qO2 E cs) (hSt:qT1 w w.heap.size a m cs) (hm:0 < m) (hm8:m≤8) (h:qM5 w sa n xs) (hn:n≤1048576) :
  Calls Tryz.prog 53 #[.slice a m cap,.slice sa n sc] w fun d w'=>SpkR a m cap xs n (qF6 E xs n) w d w':=by
 have hn':(n:Int)≤1048576:=by omega
 have HXL:Hid (xs.length=n):=h.1
 obtain ⟨V,hV⟩:∃ V,V=(w.alloc (.cells #[.slice none 0 0,.slice none 0 0,.slice none 0 0] 74)).alloc (.cells #[.slice a m cap,.slice none 0 0,.slice none 0 0] 74):=⟨_,rfl⟩
 have A0:Below w.heap.size w V:=by rw [hV];exact (zN).alloc (by simp) _
 have S0:qH2 V (w.heap.size+1) (w.heap.size+1) (.slice a m cap) none 0 [] none 0 []:=by
  refine ⟨?_,World.ownsRow_nil _ _ _ _,World.ownsRow_nil _ _ _ _,Nat.le_refl _⟩
  rw [hV]
  have e:w.heap.size+1=(w.alloc (.cells #[.slice none 0 0,.slice none 0 0,.slice none 0 0] 74)).heap.size:=by simp
  have q:=QV2 (w.alloc (.cells #[.slice none 0 0,.slice none 0 0,.slice none 0 0] 74)) (.cells #[.slice a m cap,.slice none 0 0,.slice none 0 0] 74)
  rw [← e] at q
  exact q
 have XB:Hid (qG2 w.heap.size [.slice none 0 0,.slice none 0 0,.slice none 0 0] V):=by
  rw [hV]
  exact qG2.below (qE0 w _ _) (by simp) (zN)
 have HUP:Hid (Calls Tryz.prog 85 #[.pointer (some ⟨w.heap.size+1,0,none⟩),.slice sa n sc] V fun d w'=>UpR E V (w.heap.size+1) (w.heap.size+1) (.slice a m cap) xs n d w'):=QV9 E (w.heap.size+1) (w.heap.size+1) a m cap cs none 0 none 0 sa n sc xs V S0 hEC (fun W hW=>hSt W (A0.trans (hW.mono (Nat.le_succ _)))) hm hm8 (fun W hW=>h.below (A0.trans (hW.mono (Nat.le_succ _)))) hn
 have HA0:=qC8 A0
 clear hEC hSt h A0 S0
 go_enter Tryz.func53,Tryz.ntmps53
 go_upto_region 2 with fail
 rw [← hV]
 clear hV
 go_wp2_with fail
 refine HUP.out.mono ?_
 unfold UpR
 rintro d w2 ⟨rfl,k,ls,hk,hEU,hend⟩
 obtain ⟨ta,tc,la,lc,hsp⟩:=hEU.sp
 have B2:Hid (Below w.heap.size w w2):=HA0.out.trans (hEU.bl.mono (Nat.le_succ _))
 have X2:qG2 w.heap.size [.slice none 0 0,.slice none 0 0,.slice none 0 0] w2:=⟨fun j v e=>(World.cell?_of_block (w:=V) (w':=w2) (a:=⟨w.heap.size,j,none⟩) (hEU.bl.block _ (Nat.lt_succ_self _))).trans (XB.out.1 j v e),fun j=>(World.frozen?_of_block (w:=V) (w':=w2) (a:=⟨w.heap.size,j,none⟩) (hEU.bl.block _ (Nat.lt_succ_self _))).trans (XB.out.2 j)⟩
 have HYK:Hid ((xs.take k).length=k):=by show _=_;rw [List.length_take];have:=HXL.out;omega
 have SP:=qC8 hsp
 have HPL:=qC8 hEU.pl
 have HND:=qC8 hend
 clear hEU hend HUP XB HA0
 have s0:=hsp.spk.c0
 have s1:w2.cell? ⟨w.heap.size+1,1,none⟩=some (.slice ta k tc):=by
  have q:=hsp.spk.c1
  rw [HYK.out] at q
  exact q
 have s2:=hsp.spk.c2
 have hsl:=hsp.lt
 have hwl:w.heap.size < w2.heap.size:=Nat.lt_trans (Nat.lt_succ_self _) hsl
 have u0:=X2.1 0 _ rfl
 have u1:=X2.1 1 _ rfl
 have u2:=X2.1 2 _ rfl
 have f0:=X2.2 0
 have f1:=X2.2 1
 have f2:=X2.2 2
 have O1:Hid (qB1 w2 (w.heap.size+1) (.slice ta k tc) (xs.take k)):=by
  have q:=SP.out.ow
  rw [HYK.out] at q
  exact q
 obtain ⟨t,ht⟩:∃ t,((k:Int)==(n:Int))=t:=⟨_,rfl⟩
 have HT:=qC8 ht
 clear hsp X2
 go_upto_region 3 with fail
 go_region
 clear ht
 go_wp2_with fail
 refine bodyPost_ret (v:=.tuple #[.agg #[.slice a m cap,.slice ta k tc,.slice la ls.length lc],.bool t]) (by simp [results,Tryz.results53,go_sem,u0,u1,u2,hwl]) rfl ?_
 refine ⟨(((B2.out.setCell (Nat.le_refl _) _).setCell (Nat.le_refl _) _).setCell (Nat.le_refl _) _).drew,fun q hq=>?_,fun hq=>?_⟩
 ·have hkn:k=n:=HND.out.elim id (fun e=>by
   by_cases c:k=n
   ·exact c
   ·rw [qZ9 e (by omega)] at hq;cases hq)
  subst hkn
  rw [HPL.out] at hq
  cases hq
  have htk:xs.take k=xs:=by rw [← HXL.out];exact List.take_length
  have ht:t=true:=by rw [← HT.out];simp
  subst ht
  refine ⟨ta,tc,la,lc,rfl,?_,?_⟩
  ·have q:=qA2 (X':=(((w2.setCell ⟨w.heap.size,0,none⟩ (.slice a m cap)).setCell ⟨w.heap.size,1,none⟩ (.slice ta k tc)).setCell ⟨w.heap.size,2,none⟩ (.slice la ls.length lc)).drew) O1.out (fun g e=>by
    obtain ⟨cur,hc,hg⟩:=qD4 O1.out e
    show ((((w2.setCell _ _).setCell _ _).setCell _ _)).heap[g]? = _
    rw [Below.heap_setCell _ _ _ _ (by show g≠w.heap.size;omega),Below.heap_setCell _ _ _ _ (by show g≠w.heap.size;omega),Below.heap_setCell _ _ _ _ (by show g≠w.heap.size;omega)])
   rw [htk] at q
   exact q
  ·exact qA2 SP.out.lk (fun g e=>by
    obtain ⟨cur,hc,hg⟩:=qD2 SP.out.lk e
    show ((((w2.setCell _ _).setCell _ _).setCell _ _)).heap[g]? = _
    rw [Below.heap_setCell _ _ _ _ (by show g≠w.heap.size;omega),Below.heap_setCell _ _ _ _ (by show g≠w.heap.size;omega),Below.heap_setCell _ _ _ _ (by show g≠w.heap.size;omega)])
 ·have hkn:¬ k=n:=fun e=>by rw [← e,HPL.out] at hq;cases hq
  have ht:t=false:=by rw [← HT.out];simp;omega
  subst ht
  exact ⟨_,_,_,_,_,_,rfl⟩

structure Mrk (w w':World):Prop where
 it:∀ (a:Addr) (x:Int),w.cell? a=some (.int .i64 x)→∃ y,w'.cell? a=some (.int .i64 y)
 sl:∀ (a:Addr) (b:Option Addr) (n c:Nat),w.cell? a=some (.slice b n c)→w'.cell? a=some (.slice b n c)
 fr:∀ a,w'.frozen? a=w.frozen? a
theorem Mrk.refl (w:World):Mrk w w:=⟨fun _ x h=>⟨x,h⟩,fun _ _ _ _ h=>h,fun _=>rfl⟩
theorem Mrk.trans {a b c:World} (h:Mrk a b) (k:Mrk b c):Mrk a c :=
 ⟨fun q x e=>by obtain ⟨y,e'⟩:=h.it q x e;exact k.it q y e',fun q b n c e=>k.sl q b n c (h.sl q b n c e),fun q=>(k.fr q).trans (h.fr q)⟩
theorem Mrk.set {w:World} {a:Addr} {x:Int} (h:w.cell? a=some (.int .i64 x)) (y:Int):Mrk w (w.setCell a (.int .i64 y)):=by
 refine ⟨fun q z e=>?_,fun q b n c e=>?_,fun q=>World.frozen?_setCell ..⟩
 ·by_cases hq:q=a
  ·subst hq
   exact ⟨y,by simp [go_sem,h]⟩
  ·exact ⟨z,by rw [World.cell?_setCell_other (h:=fun e=>hq e.symm)];exact e⟩
 ·have hq:q≠a:=fun e'=>by subst e';rw [h] at e;cases e
  rw [World.cell?_setCell_other (h:=fun e=>hq e.symm)]
  exact e
def qO0 (w:World) (g m:Nat):Prop:=(∀ j,j < m→∃ x,w.cell? ⟨g,j,none⟩=some (.int .i64 x))∧∀ j,w.frozen? ⟨g,j,none⟩=false
theorem qO0.mrk {w w':World} {g m:Nat} (h:qO0 w g m) (k:Mrk w w'):qO0 w' g m :=
 ⟨fun j hj=>by obtain ⟨x,e⟩:=h.1 j hj;exact k.it _ x e,fun j=>(k.fr _).trans (h.2 j)⟩
theorem Chg.refl {lo hi:Nat} (w:World):Chg lo hi w w:=Chg.calls (Below.refl _ _)
structure MI (lo hi:Nat) (w0 w:World) (g m:Nat):Prop where
 mr:Mrk w0 w
 ch:Chg lo hi w0 w
 rw:qO0 w g m
theorem MI.set {lo hi:Nat} {w0 w:World} {g m j:Nat} (h:MI lo hi w0 w g m) (hg:lo≤g∧g < hi) (hj:j < m) (y:Int):MI lo hi w0 (w.setCell ⟨g,j,none⟩ (.int .i64 y)) g m:=by
 obtain ⟨x,e⟩:=h.rw.1 j hj
 have hm:=Mrk.set e y
 exact ⟨h.mr.trans hm,h.ch.trans (Chg.grown (qJ5 w g j _) (fun q e=>by cases e;exact hg)),h.rw.mrk hm⟩
theorem markIntsK_c (lo hi g n cap:Nat) (k0:Int) (w:World) (hn:n≤1048576) (h0:0≤k0) (h1:k0≤9000000000000000000) (hg:lo≤g∧g < hi) (h:qO0 w g (n)) :
  Calls Tryz.prog 47 #[.slice (some ⟨g,0,none⟩) n cap,.int .i64 k0] w fun e w'=>e = .returned (.int .i64 (k0+1 * (n:Int)))∧Mrk w w'∧Chg lo hi w w':=by
 have HO:Hid (MI lo hi w w g (n)):=⟨Mrk.refl w,Chg.refl w,h⟩
 clear h
 have hn':(n:Int)≤1048576:=by omega
 go_enter Tryz.func47,Tryz.ntmps47
 go_wp2
 go_loopw [1,5] (fun q i wr=>∃ (j:Nat),j≤n∧i = .int .i64 (j:Int)∧q = .int .i64 (k0+1 * (j:Int))∧MI lo hi w wr g (n))
  (fun _ i _=>n - (intOf i).toNat)
 case atStart=>exact ⟨0,Nat.zero_le _,rfl,by simp,HO.out⟩
 case round =>
  obtain ⟨j,hj,rfl,rfl,hmi⟩:=hrel
  have HG:Hid (MI lo hi w wr g (n)):=hmi
  have hroom:=hmi.rw
  clear hmi
  by_cases hlt:j < n
  ·have hlt':(j:Int) < (n:Int):=by omega
   obtain ⟨v0,c0⟩:=hroom.1 (j) (by omega)
   have f0:=hroom.2 (j)
   clear hroom
   go_wp2
   refine ⟨⟨j+1,by omega,by go_num,?_,?_⟩,by simp [intOf];omega⟩
   ·congr 1;omega
   ·exact (HG.out.set hg (show j < n by omega) _)
  ·have hjn:j=n:=by omega
   subst hjn
   clear hroom
   go_wp2
   go_ret
   exact ⟨rfl,HG.out.mr,HG.out.ch⟩
theorem qO0.below {w w':World} {g m:Nat} (h:qO0 w g m) (hg:g < w.heap.size) (hb:Below w.heap.size w w'):qO0 w' g m :=
 ⟨fun j hj=>by obtain ⟨x,e⟩:=h.1 j hj;exact ⟨x,(hb.cell (p:=⟨g,j,none⟩) hg).trans e⟩,fun j=>(hb.frozen (p:=⟨g,j,none⟩) hg).trans (h.2 j)⟩
structure qD6 (P:World→Prop) (W:World):Prop where
 out:P W
 kept:∀ X X':World,P X→Below X.heap.size X X'→P X'
theorem qD6.below {P:World→Prop} {W W':World} (h:qD6 P W) (hb:Below W.heap.size W W'):qD6 P W':=⟨h.kept _ _ h.out hb,h.kept⟩

end Go.Proofs.YtlhgjackapdmbaaGreatDoor
