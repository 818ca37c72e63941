/- Contracts. -/
import Derived.Test.YtdppdbihhlipeaaGreatDoorPl37
namespace Go.Proofs.YtdppdbihhlipeaaGreatDoor
set_option maxRecDepth 100000
set_option maxHeartbeats 8000000
open Go.RowKit
set_option linter.unusedVariables false
set_option linter.unusedSimpArgs false

theorem endorse_said (E:qH4) (b B:Nat) (a:Option Addr) (m cap:Nat) (cs:List qA1) (sa:Option Addr) (sc:Nat) (said:List StI) (la:Option Addr) (lc:Nat) (ls:List LkI) (x:StI) (w:World) (hS:qG7 w b B (.slice a m cap) sa sc said la lc ls) (hEC:qN9 E cs) (hSt:qS9 w B a m cs) (hm:0 < m) (hm8:m≤8) (hRp:RpS E said ls) (hst:qB8 x=0) (hsx:qD2 said x=true)  :
  Calls Tryz.prog 84 #[.pointer (some ⟨b,0,none⟩),.agg #[.int .i64 x.k,.int .i64 x.e,.int .i64 x.f,.int .i64 x.s,.int .i64 x.n]] w fun d w'=>d = .returned (.int .i64 0)∧qG7 w' b B (.slice a m cap) sa sc said la lc ls∧Below B w w':=by
 obtain ⟨⟨hk1,hk2⟩,⟨he1,he2⟩,⟨hn1,hn2⟩,_⟩:=qH6 hst
 have hlen:=hRp.len
 have hrows:=hS.rows
 have hbl:=hS.lt
 have HST:Hid (qS9 w B a m cs):=hSt
 have HEC:Hid (qN9 E cs):=hEC
 have HRP:Hid (RpS E said ls):=hRp
 have hml:cs.length=m:=(hSt w (Below.refl _ _)).1.1
 have HNX:Hid (∀ x∈said,x.k=4→0≤x.n∧x.n < (m:Int)):=fun y hy hk=>by
  have:=hRp.nx y hy hk
  rw [hEC.es,List.length_map,hml] at this
  exact this
 obtain ⟨V,hV⟩:∃ V,V=qD9 w b x:=⟨_,rfl⟩
 have HV:Hid (V=qD9 w b x):=hV
 have E0:qM8 w.heap.size b x 0 V:=by rw [hV];exact qM8.new w b x
 have B0:Below w.heap.size w V:=by rw [hV];exact qD9.below w b x
 have HS0:Hid (qG7 V b B (.slice a m cap) sa sc said la lc ls):=hS.below B0
 have HB0:Hid (Below w.heap.size w V):=B0
 have HE0:Hid (qM8 w.heap.size b x 0 V):=E0
 have hBb:=hS.hb
 have HF:Hid (∀ W:World,Calls Tryz.prog 93 #[.agg #[.int .i64 x.k,.int .i64 x.e,.int .i64 x.f,.int .i64 x.s,.int .i64 x.n]] W fun e w'=>e = .returned (.int .i64 0)∧Below W.heap.size W w'):=fun W=>by rw [← hst];exact qB4 x W
 have HCN:Hid (∀ W:World,qG7 W b B (.slice a m cap) sa sc said la lc ls→Calls Tryz.prog 108 #[.slice sa said.length sc,.agg #[.int .i64 x.k,.int .i64 x.e,.int .i64 x.f,.int .i64 x.s,.int .i64 x.n]] W fun e w'=>e = .returned (.bool true)∧Below W.heap.size W w'):=fun W q=>by rw [← hsx];exact qF3 sa said.length sc said x W (by omega) q.stIn
 have HSE:Hid (qG7 w b B (.slice a m cap) sa sc said la lc ls):=hS
 have hmf:∀ (fn:Fn) (first cap:Array Value) (w:World),(Instr.makeFunc fn first cap).run Tryz.prog w = .ok (.func fn first cap) w:=fun _ _ _ _=>rfl
 have HRW:Hid ((∀ g,(Value.slice sa said.length sc).ownBlock=some g→g < w.heap.size)∧(∀ g,(Value.slice la ls.length lc).ownBlock=some g→g < w.heap.size)):=hrows
 clear hS hEC hSt hRp B0 hV E0 hst hsx hrows hml
 go_enter Tryz.func84,Tryz.ntmps84
 go_wp2_with fail
 rw [show ((w.alloc (.cells #[.pointer (some ⟨b,0,none⟩)] 145)).alloc (.cells #[.int .i64 x.k,.int .i64 x.e,.int .i64 x.f,.int .i64 x.s,.int .i64 x.n] 85)).alloc (.cells #[.int .i64 0] 2)=V from HV.out.symm]
 refine (HF.out _).mono ?_
 rintro d w1 ⟨rfl,hb1⟩
 have E1:=HE0.out.below hb1
 have e1:=E1.c
 have f1:=E1.f
 have l1:=E1.lt
 have E2:=E1.put 0
 have S2:qG7 (w1.setCell ⟨w.heap.size+1+1,0,none⟩ (.int .i64 0)) b B (.slice a m cap) sa sc said la lc ls:=(HS0.out.below hb1).other (fun g hg=>by
  show g≠w.heap.size+1+1
  rcases hg with q | q | q
  ·have:=HRW.out.1 g q;omega
  ·have:=HRW.out.2 g q;omega
  ·omega) _
 have B2:Hid (Below B w (w1.setCell ⟨w.heap.size+1+1,0,none⟩ (.int .i64 0))):=((HB0.out.trans (hb1.mono HB0.out.size)).mono (by omega)).setCell (by show B≤w.heap.size+1+1;omega) _
 go_upto_region 2 with fail
 generalize w1.setCell ⟨w.heap.size+1+1,0,none⟩ (.int .i64 0)=w2 at *
 clear e1 f1 l1 E1 hb1
 refine wp_region_held_drew (S:=fun w'=>qM8 w.heap.size b x 0 w'∧qG7 w' b B (.slice a m cap) sa sc said la lc ls) (by kernel_rfl) (⟨E2.below (Below.refl _ _).drew,S2.below (Below.refl _ _).drew⟩) (fun hHeld=>?_)
 refine Zk.go [0,1,2,3,4,5,6,7] ?_
 iterate 8
  refine Zk.st (v:=?_) rfl ?_ ?_
  rotate_left 1
  ·intro w hSw;have p0:=hSw.1.s;have p1:=hSw.1.x0;have p2:=hSw.1.x1;have p3:=hSw.1.x2;have p4:=hSw.1.x3;have p5:=hSw.1.x4;have p6:=hSw.1.c;have p7:=hSw.2.spk.c1;clear hSw;go_simp;try (with_reducible rfl)
  try simp only [Act.put,zA,zB,zC,zD,zE,zF]
 refine Zk.fin ?_
 refine Zk.rd (i:=8) rfl (fun K hK=>?_)
 go_simp
 refine (HCN.out _ hHeld.2).mono ?_
 rintro d w3 ⟨rfl,hb3⟩
 have hS:qM8 w.heap.size b x 0 w3∧qG7 w3 b B (.slice a m cap) sa sc said la lc ls:=⟨hHeld.1.below hb3,hHeld.2.below hb3⟩
 have hB3:Below B w w3:=B2.out.drew.trans (hb3.mono (by have:=B2.out.size;show B≤w2.heap.size;omega))
 refine hK.out _ _ hS (fun hHeld=>?_)
 clear hK K
 try simp only [Act.put,zA,zB,zC,zD,zE,zF]
 refine Zk.go [9] ?_
 refine Zk.st (v:=?_) rfl ?_ ?_
 rotate_left 1
 ·intro w hSw;have p0:=hSw.1.s;have p1:=hSw.1.x0;have p2:=hSw.1.x1;have p3:=hSw.1.x2;have p4:=hSw.1.x3;have p5:=hSw.1.x4;have p6:=hSw.1.c;have p7:=hSw.2.spk.c1;clear hSw;go_simp;try (with_reducible rfl)
 try simp only [Act.put,zA,zB,zC,zD,zE,zF]
 refine Zk.fin ?_
 refine wpAnyH_done (by kernel_rfl) ?_ _
 have p6:=hS.1.c
 have p6f:=hS.1.f
 have p6l:=hS.1.lt
 have S4:qG7 (w3.setCell ⟨w.heap.size+1+1,0,none⟩ (.int .i64 0)) b B (.slice a m cap) sa sc said la lc ls:=hS.2.other (fun g hg=>by
  show g≠w.heap.size+1+1
  rcases hg with q | q | q
  ·have:=HRW.out.1 g q;omega
  ·have:=HRW.out.2 g q;omega
  ·omega) _
 have B4:=hB3.setCell (p:=⟨w.heap.size+1+1,0,none⟩) (by show B≤w.heap.size+1+1;omega) (.int .i64 0)
 have H4:=qD4 S4
 clear hHeld hS hB3 hb3 E2 S2 B2 S4
 go_wp2_with fail
 exact bodyPost_ret (v:=.int .i64 0) (by simp [results,Tryz.results84,go_sem,p6,p6l]) rfl ⟨rfl,H4.out,B4⟩
def EndQ (E:qH4) (w:World) (b B:Nat) (cv:Value) (sa:Option Addr) (sc:Nat) (said:List StI) (la:Option Addr) (lc:Nat) (ls:List LkI) (x:StI) (d:Ending) (w':World):Prop :=
 d = .returned (.int .i64 (qF0 E said ls x))∧Below B w w'∧((qF0 E said ls x≠0∨qD2 said x=true)→qG7 w' b B cv sa sc said la lc ls)∧(qF0 E said ls x=0→qD2 said x=false→∃ sa' sc' la' lc',qG7 w' b B cv sa' sc' (said++[x]) la' lc' (qE1 E said ls x))
theorem QH2 {E:qH4} {w:World} {b B:Nat} {cv:Value} {sa:Option Addr} {sc:Nat} {said:List StI} {la:Option Addr} {lc:Nat} {ls:List LkI} {x:StI} {k:Int} {L:List LkI} {d:Ending} {w':World} (hst:qB8 x=0) (hsx:qD2 said x=false) (hk:qF5 E said ls x=k) (hL:k=0→qE1 E said ls x=L) (h:EndP w b B cv sa sc said la lc ls x k L d w'):EndQ E w b B cv sa sc said la lc ls x d w':=by
 have e:qF0 E said ls x=k:=by
  unfold qF0
  rw [if_pos hst,hsx,if_neg (by decide),hk]
 obtain ⟨h1,h2,h3,h4⟩:=h
 refine ⟨by rw [e];exact h1,h4,fun q=>?_,fun q _=>?_⟩
 ·rw [e,hsx] at q
  exact h2 (q.elim id (fun q=>by cases q))
 ·rw [e] at q
  rw [hL q]
  exact h3 q
theorem endorse_c (E:qH4) (b B:Nat) (a:Option Addr) (m cap:Nat) (cs:List qA1) (sa:Option Addr) (sc:Nat) (said:List StI) (la:Option Addr) (lc:Nat) (ls:List LkI) (x:StI) (w:World) (hS:qG7 w b B (.slice a m cap) sa sc said la lc ls) (hEC:qN9 E cs) (hSt:qS9 w B a m cs) (hm:0 < m) (hm8:m≤8) (hRp:RpS E said ls) :
  Calls Tryz.prog 84 #[.pointer (some ⟨b,0,none⟩),.agg #[.int .i64 x.k,.int .i64 x.e,.int .i64 x.f,.int .i64 x.s,.int .i64 x.n]] w fun d w'=>EndQ E w b B (.slice a m cap) sa sc said la lc ls x d w':=by
 have hlen:=hRp.len
 have hBw:B≤w.heap.size:=Nat.le_trans hS.hb (Nat.le_of_lt hS.lt)
 by_cases hst:qB8 x=0
 ·cases hsx:qD2 said x
  ·have hml:cs.length=m:=(hSt w (Below.refl _ _)).1.1
   have hel:E.es.length=m:=by rw [hEC.es,List.length_map,hml]
   obtain ⟨⟨hk1,hk2⟩,_⟩:=qH6 hst
   rcases known_in hRp (by omega) x.e with hkn | ⟨hp0,hpl⟩
   ·have hneg:qB3 E said x.e < 0:=by omega
    refine (endorse_none E b B a m cap cs sa sc said la lc ls x w hS hEC hSt hm hm8 hRp hst hsx hneg []).mono fun d w' h=>QH2 hst hsx ?_ (fun q=>by cases q) h
    unfold qF5
    rw [if_pos hneg]
   ·obtain ⟨c,hpc⟩:∃ c,cs[(qB3 E said x.e).toNat]? = some c:=⟨_,List.getElem?_eq_getElem (by omega)⟩
    have hneg:¬ qB3 E said x.e < 0:=by omega
    by_cases h40:40≤said.length
    ·refine (endorse_many E b B a m cap cs sa sc said la lc ls x w hS hEC hSt hm hm8 hRp hst hsx c hp0 hpc h40 []).mono fun d w' h=>QH2 hst hsx ?_ (fun q=>by cases q) h
     unfold qF5
     rw [if_neg hneg,if_pos h40]
    ·by_cases k1:x.k=1
     ·obtain ⟨_,gs,hg,hal,hcl⟩:=hEC.cf _ c hpc
      have hnk:qF5 E said ls x=qH1 E said ls (qB3 E said x.e).toNat x:=by
       unfold qF5
       rw [if_neg hneg,if_neg h40,if_pos k1]
      have hnl:qE1 E said ls x=qL3 ls c.cs x.e x.f x.s:=by
       unfold qE1
       rw [if_pos k1,hcl]
      cases hse:(qU3 said x.e || qD2 said (qS8 x))
      ·cases hw:alW (qA3 c.fs) gs x.f x.s
       ·refine (QQ2 E b B a m cap cs sa sc said la lc ls x w hS hEC hSt hm hm8 hRp hst hsx c hp0 hpc (by omega) k1 gs hg hse hw []).mono fun d w' h=>QH2 hst hsx ?_ (fun q=>by cases q) h
        rw [hnk]
        unfold qH1
        rw [if_neg (by rw [hse];decide),hal,hw,if_pos rfl]
       ·refine (QW5 E b B a m cap cs sa sc said la lc ls x w hS hEC hSt hm hm8 hRp hst hsx c hp0 hpc (by omega) k1 gs hg hse hw _ rfl _ rfl).mono fun d w' h=>QH2 hst hsx ?_ (fun q=>hnl) h
        rw [hnk]
        unfold qH1
        rw [if_neg (by rw [hse];decide),hal,hw,if_neg (by decide),hcl]
      ·refine (endorse_old E b B a m cap cs sa sc said la lc ls x w hS hEC hSt hm hm8 hRp hst hsx c hp0 hpc (by omega) k1 gs hg hse []).mono fun d w' h=>QH2 hst hsx ?_ (fun q=>by cases q) h
       rw [hnk]
       unfold qH1
       rw [if_pos hse]
     ·have hnl:qE1 E said ls x=ls:=by
       unfold qE1
       rw [if_neg k1]
      by_cases k2:x.k=2
      ·refine (QQ1 E b B a m cap cs sa sc said la lc ls x w hS hEC hSt hm hm8 hRp hst hsx c hp0 hpc (by omega) k2).mono fun d w' h=>QH2 hst hsx ?_ (fun _=>hnl) h
       unfold qF5
       rw [if_neg hneg,if_neg h40,if_neg k1,if_pos k2]
      ·have hnk:qF5 E said ls x=qC7 E said x:=by
        unfold qF5
        rw [if_neg hneg,if_neg h40,if_neg k1,if_neg k2]
       by_cases k3:x.k=3
       ·exact (endorse_next E b B a m cap cs sa sc said la lc ls x w hS hEC hSt hm hm8 hRp hst hsx c hp0 hpc (by omega) k3 _ rfl).mono fun d w' h=>QH2 hst hsx hnk (fun _=>hnl) h
       ·exact (endorse_take E b B a m cap cs sa sc said la lc ls x w hS hEC hSt hm hm8 hRp hst hsx c hp0 hpc (by omega) (by omega) _ rfl).mono fun d w' h=>QH2 hst hsx hnk (fun _=>hnl) h
  ·refine (endorse_said E b B a m cap cs sa sc said la lc ls x w hS hEC hSt hm hm8 hRp hst hsx).mono fun d w' h=>?_
   have e:qF0 E said ls x=0:=by
    unfold qF0
    rw [if_pos hst,if_pos hsx]
   exact ⟨by rw [e];exact h.1,h.2.2,fun _=>h.2.1,fun _ q=>by rw [hsx] at q;cases q⟩
 ·refine (QW6 b _ _ sa said.length sc said x w hS.spk hS.stIn (by omega) hst).mono fun d w' h=>?_
  have e:qF0 E said ls x=qB8 x:=by
   unfold qF0
   rw [if_neg hst]
  exact ⟨by rw [e];exact h.1,h.2.mono hBw,fun _=>hS.below h.2,fun q _=>absurd (e ▸ q) hst⟩

theorem heap_new (W:World) (o:Obj):(W.alloc o).heap[W.heap.size]? = some o:=by
 show (W.heap.push o)[W.heap.size]? = _
 simp
def SpkR (a:Option Addr) (m cap:Nat) (xs:List StI) (n:Nat) (o:Option (List LkI)) (w:World) (d:Ending) (w':World):Prop :=
 Below w.heap.size w w'∧(∀ ls,o=some ls→∃ (sa:Option Addr) (sc:Nat) (la:Option Addr) (lc:Nat),d = .returned (.tuple #[.agg #[.slice a m cap,.slice sa n sc,.slice la ls.length lc],.bool true])∧qE7 w' (w.heap.size+1) (.slice sa n sc) xs∧qB0 w' (w.heap.size+1) (.slice la ls.length lc) ls)∧(o=none→∃ (sa:Option Addr) (sn sc:Nat) (la:Option Addr) (ln lc:Nat),d = .returned (.tuple #[.agg #[.slice a m cap,.slice sa sn sc,.slice la ln lc],.bool false]))
structure EUL (E:qH4) (w:World) (b B:Nat) (cv:Value) (xs:List StI) (k:Nat) (ls:List LkI) (wr:World):Prop where
 pl:qF4 E xs k=some ls
 sp:∃ sa sc la lc,qG7 wr b B cv sa sc (xs.take k) la lc ls
 bl:Below B w wr
def UpR (E:qH4) (w:World) (b B:Nat) (cv:Value) (xs:List StI) (n:Nat) (d:Ending) (w':World):Prop :=
 d = .returned (.tuple #[])∧∃ (k:Nat) (ls:List LkI),k≤n∧EUL E w b B cv xs k ls w'∧(k=n∨qF4 E xs (k+1)=none)
theorem UpR.mk {E:qH4} {w:World} {b B:Nat} {cv:Value} {xs:List StI} {n:Nat} {w':World} {k:Nat} {ls:List LkI} (hk:k≤n) (h:EUL E w b B cv xs k ls w') (he:k=n∨qF4 E xs (k+1)=none):UpR E w b B cv xs n (.returned (.tuple #[])) w':=⟨rfl,k,ls,hk,h,he⟩
theorem QI4 {E:qH4} {xs:List StI} {k:Nat} {ls:List LkI} {x:StI} (h:qF4 E xs k=some ls) (hx:xs[k]? = some x) (q:qF0 E (xs.take k) ls x≠0∨qD2 (xs.take k) x=true):qF4 E xs (k+1)=none:=by
 rw [QL0 h hx]
 rcases q with q | q
 ·split
  ·rfl
  ·first | rfl | rw [if_neg q]
 ·rw [if_pos q]
theorem QZ9 {E:qH4} {xs:List StI} {k:Nat} {ls:List LkI} {x:StI} (h:qF4 E xs k=some ls) (hx:xs[k]? = some x) (q:qF0 E (xs.take k) ls x=0) (q2:qD2 (xs.take k) x=false):qF4 E xs (k+1)=some (qE1 E (xs.take k) ls x):=by
 rw [QL0 h hx,q2,if_neg (by decide),if_pos q]
theorem QW7 (E:qH4) (b B:Nat) (a:Option Addr) (m cap:Nat) (cs:List qA1) (s0:Option Addr) (sc0:Nat) (l0:Option Addr) (lc0:Nat) (sa:Option Addr) (n sc:Nat) (xs:List StI) (w:World) (hS:qG7 w b B (.slice a m cap) s0 sc0 [] l0 lc0 []) (hEC:qN9 E cs) (hSt:qS9 w B a m cs) (hm:0 < m) (hm8:m≤8) (h:∀ W,Below B w W→qL2 W sa n xs) (hn:n≤1048576) :
  Calls Tryz.prog 50 #[.pointer (some ⟨b,0,none⟩),.slice sa n sc] w fun d w'=>UpR E w b B (.slice a m cap) xs n d w':=by
 have HEC:Hid (qN9 E cs):=hEC
 have HST:Hid (qS9 w B a m cs):=hSt
 have HX:Hid (∀ W,Below B w W→qL2 W sa n xs):=h
 have hn':(n:Int)≤1048576:=by omega
 have hxl:xs.length=n:=(h w (Below.refl _ _)).1
 have HXL:Hid (xs.length=n):=hxl
 have L0:Hid (EUL E w b B (.slice a m cap) xs 0 [] w):=⟨rfl,⟨s0,sc0,l0,lc0,hS⟩,Below.refl _ _⟩
 clear hEC hSt h hxl hS
 go_enter Tryz.func50,Tryz.ntmps50
 go_wp2_with fail
 go_loopw [9] (fun i wr=>∃ (k:Nat) (ls:List LkI),k≤n∧i = .int .i64 (k:Int)∧Hid (EUL E w b B (.slice a m cap) xs k ls wr)) (fun i _=>n - (intOf i).toNat)
 case atStart=>exact ⟨0,[],Nat.zero_le _,rfl,L0⟩
 case round =>
  clear L0
  obtain ⟨k,ls,hk,rfl,LK⟩:=hrel
  obtain ⟨ta,tc,la,lc,hsp⟩:=LK.out.sp
  have SP:Hid (qG7 wr b B (.slice a m cap) ta tc (xs.take k) la lc ls):=hsp
  have hBw:B≤wr.heap.size:=Nat.le_of_lt (Nat.lt_of_le_of_lt hsp.hb hsp.lt)
  clear hsp
  by_cases hlt:k < n
  ·have hlt':(k:Int) < (n:Int):=by omega
   obtain ⟨bx,off,x,ea,hx,hat,hbl⟩:=(HX.out wr LK.out.bl).at hlt
   subst ea
   have HXK:Hid (xs[k]? = some x):=hx
   clear hx
   obtain ⟨e,he⟩:∃ e,qF0 E (xs.take k) ls x=e:=⟨_,rfl⟩
   have HE:Hid (qF0 E (xs.take k) ls x=e):=he
   have hRp:RpS E (xs.take k) ls:=QU6 k ls (by have:=HXL.out;omega) LK.out.pl
   obtain ⟨Y,hY⟩:∃ Y,Y=wr.alloc (.cells #[.int .i64 x.k,.int .i64 x.e,.int .i64 x.f,.int .i64 x.s,.int .i64 x.n] 85):=⟨_,rfl⟩
   have AY:Below wr.heap.size wr Y:=by rw [hY];exact zN
   have BY:Below B w Y:=LK.out.bl.trans (AY.mono hBw)
   have HB:Hid (Below B w Y):=BY
   have HPL:Hid (qF4 E xs k=some ls):=LK.out.pl
   have SY:Hid (qG7 Y b B (.slice a m cap) ta tc (xs.take k) la lc ls):=SP.out.below AY
   have HYK:Hid ((xs.take k).length=k):=by show _=_;rw [List.length_take];have:=HXL.out;omega
   have HEN:Hid (Calls Tryz.prog 84 #[.pointer (some ⟨b,0,none⟩),.agg #[.int .i64 x.k,.int .i64 x.e,.int .i64 x.f,.int .i64 x.s,.int .i64 x.n]] Y fun d w'=>d = .returned (.int .i64 e)∧Below B Y w'∧((e≠0∨qD2 (xs.take k) x=true)→qG7 w' b B (.slice a m cap) ta tc (xs.take k) la lc ls)∧(e=0→qD2 (xs.take k) x=false→∃ sa' sc' la' lc',qG7 w' b B (.slice a m cap) sa' sc' (xs.take k++[x]) la' lc' (qE1 E (xs.take k) ls x))):=by
    have q:=endorse_c E b B a m cap cs ta tc (xs.take k) la lc ls x Y SY.out HEC.out (fun W hW=>HST.out W (BY.trans hW)) hm hm8 hRp
    unfold EndQ at q
    rw [he] at q
    exact q
   obtain ⟨h0,h1,h2,h3,h4⟩:=hat
   clear LK SP hRp he BY AY
   go_upto_region 3 with fail
   rw [← hY]
   have y0:Y.cell? ⟨wr.heap.size,0,none⟩=some (.int .i64 x.k):=by rw [hY];simp [go_sem]
   have y1:Y.cell? ⟨wr.heap.size,1,none⟩=some (.int .i64 x.e):=by rw [hY];simp [go_sem]
   have y2:Y.cell? ⟨wr.heap.size,2,none⟩=some (.int .i64 x.f):=by rw [hY];simp [go_sem]
   have y3:Y.cell? ⟨wr.heap.size,3,none⟩=some (.int .i64 x.s):=by rw [hY];simp [go_sem]
   have y4:Y.cell? ⟨wr.heap.size,4,none⟩=some (.int .i64 x.n):=by rw [hY];simp [go_sem]
   have hyl:=zL _ _ y0
   have s1:Y.cell? ⟨b,1,none⟩=some (.slice ta k tc):=by
    have q:=SY.out.spk.c1
    rw [HYK.out] at q
    exact q
   have hsl:=SY.out.lt
   clear hY h0 h1 h2 h3 h4 SY
   go_wp2_with fail
   refine HEN.out.mono ?_
   rintro d w2 ⟨rfl,hb2,hs1,hs2⟩
   clear HEN y0 y1 y2 y3 y4 s1 hsl
   have B2:Hid (Below B w w2):=HB.out.trans hb2
   clear HB hb2
   by_cases e0:e=0
   ·subst e0
    cases hsx:qD2 (xs.take k) x
    ·obtain ⟨sa',sc',la',lc',hS⟩:=hs2 rfl hsx
     have hpm:=QZ9 HPL.out HXK.out HE.out hsx
     have ht:xs.take (k+1)=xs.take k++[x]:=by rw [List.take_add_one,HXK.out];rfl
     have S3:Hid (EUL E w b B (.slice a m cap) xs (k+1) (qE1 E (xs.take k) ls x) w2):=⟨hpm,⟨sa',sc',la',lc',by rw [ht];exact hS⟩,B2.out⟩
     have s1:w2.cell? ⟨b,1,none⟩=some (.slice sa' (k+1) sc'):=by
      have q:=hS.spk.c1
      rw [List.length_append,HYK.out] at q
      exact q
     have hsl:=hS.lt
     have hne:(((k:Int)+1)==(k:Int))=false:=by simp;omega
     clear hs1 hs2 hS hpm ht hsx
     go_wp2_with fail
     exact ⟨⟨k+1,_,by omega,by go_num,S3⟩,by simp [intOf];omega⟩
    ·have hS:=hs1 (.inr hsx)
     have hpn:qF4 E xs (k+1)=none:=QI4 HPL.out HXK.out (.inr hsx)
     have S3:Hid (EUL E w b B (.slice a m cap) xs k ls w2):=⟨HPL.out,⟨ta,tc,la,lc,hS⟩,B2.out⟩
     have s1:w2.cell? ⟨b,1,none⟩=some (.slice ta k tc):=by
      have q:=hS.spk.c1
      rw [HYK.out] at q
      exact q
     have hsl:=hS.lt
     have HPN:=qD4 hpn
     clear hs1 hs2 hS hpn hsx
     go_wp2_with fail
     first | go_end0 | go_returns
     exact UpR.mk hk S3.out (.inr HPN.out)
   ·have eb:(e != 0)=true:=by simp [e0]
    have hS:=hs1 (.inl e0)
    have hpn:qF4 E xs (k+1)=none:=QI4 HPL.out HXK.out (.inl (by rw [HE.out];exact e0))
    have S3:Hid (EUL E w b B (.slice a m cap) xs k ls w2):=⟨HPL.out,⟨ta,tc,la,lc,hS⟩,B2.out⟩
    have HPN:=qD4 hpn
    clear hs1 hs2 hpn hS
    go_wp2_with fail
    first | go_end0 | go_returns
    exact UpR.mk hk S3.out (.inr HPN.out)
  ·have hkn:k=n:=by omega
   have hlt':¬ ((k:Int) < (n:Int)):=by omega
   clear SP
   go_wp2_with fail
   first | go_end0 | go_returns
   exact UpR.mk hk LK.out (.inl hkn)
theorem QC1 (E:qH4) (a:Option Addr) (m cap:Nat) (cs:List qA1) (sa:Option Addr) (n sc:Nat) (xs:List StI) (w:World) (hEC:qN9 E cs) (hSt:qS9 w w.heap.size a m cs) (hm:0 < m) (hm8:m≤8) (h:qL2 w sa n xs) (hn:n≤1048576) :
  Calls Tryz.prog 82 #[.slice a m cap,.slice sa n sc] w fun d w'=>SpkR a m cap xs n (qF4 E xs n) w d w':=by
 have hn':(n:Int)≤1048576:=by omega
 have HXL:Hid (xs.length=n):=h.1
 obtain ⟨V,hV⟩:∃ V,V=(w.alloc (.cells #[.slice none 0 0,.slice none 0 0,.slice none 0 0] 91)).alloc (.cells #[.slice a m cap,.slice none 0 0,.slice none 0 0] 91):=⟨_,rfl⟩
 have A0:Below w.heap.size w V:=by rw [hV];exact (zN).alloc (by simp) _
 have S0:qG7 V (w.heap.size+1) (w.heap.size+1) (.slice a m cap) none 0 [] none 0 []:=by
  refine ⟨?_,World.ownsRow_nil _ _ _ _,World.ownsRow_nil _ _ _ _,Nat.le_refl _⟩
  rw [hV]
  have e:w.heap.size+1=(w.alloc (.cells #[.slice none 0 0,.slice none 0 0,.slice none 0 0] 91)).heap.size:=by simp
  have q:=heap_new (w.alloc (.cells #[.slice none 0 0,.slice none 0 0,.slice none 0 0] 91)) (.cells #[.slice a m cap,.slice none 0 0,.slice none 0 0] 91)
  rw [← e] at q
  exact q
 have XB:Hid (qI3 w.heap.size [.slice none 0 0,.slice none 0 0,.slice none 0 0] V):=by
  rw [hV]
  exact qI3.below (qG8 w _ _) (by simp) (zN)
 have HUP:Hid (Calls Tryz.prog 50 #[.pointer (some ⟨w.heap.size+1,0,none⟩),.slice sa n sc] V fun d w'=>UpR E V (w.heap.size+1) (w.heap.size+1) (.slice a m cap) xs n d w'):=QW7 E (w.heap.size+1) (w.heap.size+1) a m cap cs none 0 none 0 sa n sc xs V S0 hEC (fun W hW=>hSt W (A0.trans (hW.mono (Nat.le_succ _)))) hm hm8 (fun W hW=>h.below (A0.trans (hW.mono (Nat.le_succ _)))) hn
 have HA0:=qD4 A0
 clear hEC hSt h A0 S0
 go_enter Tryz.func82,Tryz.ntmps82
 go_upto_region 2 with fail
 rw [← hV]
 clear hV
 go_wp2_with fail
 refine HUP.out.mono ?_
 unfold UpR
 rintro d w2 ⟨rfl,k,ls,hk,hEU,hend⟩
 obtain ⟨ta,tc,la,lc,hsp⟩:=hEU.sp
 have B2:Hid (Below w.heap.size w w2):=HA0.out.trans (hEU.bl.mono (Nat.le_succ _))
 have X2:qI3 w.heap.size [.slice none 0 0,.slice none 0 0,.slice none 0 0] w2:=⟨fun j v e=>(World.cell?_of_block (w:=V) (w':=w2) (a:=⟨w.heap.size,j,none⟩) (hEU.bl.block _ (Nat.lt_succ_self _))).trans (XB.out.1 j v e),fun j=>(World.frozen?_of_block (w:=V) (w':=w2) (a:=⟨w.heap.size,j,none⟩) (hEU.bl.block _ (Nat.lt_succ_self _))).trans (XB.out.2 j)⟩
 have HYK:Hid ((xs.take k).length=k):=by show _=_;rw [List.length_take];have:=HXL.out;omega
 have SP:=qD4 hsp
 have HPL:=qD4 hEU.pl
 have HND:=qD4 hend
 clear hEU hend HUP XB HA0
 have s0:=hsp.spk.c0
 have s1:w2.cell? ⟨w.heap.size+1,1,none⟩=some (.slice ta k tc):=by
  have q:=hsp.spk.c1
  rw [HYK.out] at q
  exact q
 have s2:=hsp.spk.c2
 have hsl:=hsp.lt
 have hwl:w.heap.size < w2.heap.size:=Nat.lt_trans (Nat.lt_succ_self _) hsl
 have u0:=X2.1 0 _ rfl
 have u1:=X2.1 1 _ rfl
 have u2:=X2.1 2 _ rfl
 have f0:=X2.2 0
 have f1:=X2.2 1
 have f2:=X2.2 2
 have O1:Hid (qE7 w2 (w.heap.size+1) (.slice ta k tc) (xs.take k)):=by
  have q:=SP.out.ow
  rw [HYK.out] at q
  exact q
 obtain ⟨t,ht⟩:∃ t,((k:Int)==(n:Int))=t:=⟨_,rfl⟩
 have HT:=qD4 ht
 clear hsp X2
 go_upto_region 3 with fail
 go_region
 clear ht
 go_wp2_with fail
 refine bodyPost_ret (v:=.tuple #[.agg #[.slice a m cap,.slice ta k tc,.slice la ls.length lc],.bool t]) (by simp [results,Tryz.results82,go_sem,u0,u1,u2,hwl]) rfl ?_
 refine ⟨(((B2.out.setCell (Nat.le_refl _) _).setCell (Nat.le_refl _) _).setCell (Nat.le_refl _) _).drew,fun q hq=>?_,fun hq=>?_⟩
 ·have hkn:k=n:=HND.out.elim id (fun e=>by
   by_cases c:k=n
   ·exact c
   ·rw [QA4 e (by omega)] at hq;cases hq)
  subst hkn
  rw [HPL.out] at hq
  cases hq
  have htk:xs.take k=xs:=by rw [← HXL.out];exact List.take_length
  have ht:t=true:=by rw [← HT.out];simp
  subst ht
  refine ⟨ta,tc,la,lc,rfl,?_,?_⟩
  ·have q:=qA4 (X':=(((w2.setCell ⟨w.heap.size,0,none⟩ (.slice a m cap)).setCell ⟨w.heap.size,1,none⟩ (.slice ta k tc)).setCell ⟨w.heap.size,2,none⟩ (.slice la ls.length lc)).drew) O1.out (fun g e=>by
    obtain ⟨cur,hc,hg⟩:=qD5 O1.out e
    show ((((w2.setCell _ _).setCell _ _).setCell _ _)).heap[g]? = _
    rw [Below.heap_setCell _ _ _ _ (by show g≠w.heap.size;omega),Below.heap_setCell _ _ _ _ (by show g≠w.heap.size;omega),Below.heap_setCell _ _ _ _ (by show g≠w.heap.size;omega)])
   rw [htk] at q
   exact q
  ·exact qA4 SP.out.lk (fun g e=>by
    obtain ⟨cur,hc,hg⟩:=qD1 SP.out.lk e
    show ((((w2.setCell _ _).setCell _ _).setCell _ _)).heap[g]? = _
    rw [Below.heap_setCell _ _ _ _ (by show g≠w.heap.size;omega),Below.heap_setCell _ _ _ _ (by show g≠w.heap.size;omega),Below.heap_setCell _ _ _ _ (by show g≠w.heap.size;omega)])
 ·have hkn:¬ k=n:=fun e=>by rw [← e,HPL.out] at hq;cases hq
  have ht:t=false:=by rw [← HT.out];simp;omega
  subst ht
  exact ⟨_,_,_,_,_,_,rfl⟩

theorem qJ3 (a:Option Addr) (n cap:Nat) (cs:List qA1) (w:World) (hn:n≤1048576) (hle:qF1 1048576 cs) (h:qA5 w a n cs) :
  Calls Tryz.prog 80 #[.slice a n cap] w fun e w'=>e = .returned (.int .i64 (qB9 cs))∧Below w.heap.size w w':=by
 have H:Hid (qA5 w a n cs):=h
 have HLE:Hid (qF1 1048576 cs):=hle
 have HZ:Hid (cs.length=n):=h.len
 have hn':(n:Int)≤1048576:=by omega
 clear h hle
 by_cases h1:n < 1
 ·have HC:Hid (qB9 cs=2):=by show qB9 cs=2;unfold qB9;rw [if_pos (.inl (by rw [HZ.out];exact h1))]
  have hn0:n=0:=by omega
  subst hn0
  rw [HC.out]
  go_enter Tryz.func80,Tryz.ntmps80
  go_wp2
  go_ret
  exact ⟨rfl,Below.refl _ _⟩
 ·by_cases h8:8 < n
  ·have HC:Hid (qB9 cs=2):=by show qB9 cs=2;unfold qB9;rw [if_pos (.inr (by rw [HZ.out];exact h8))]
   have h1':¬ ((n:Int) < 1):=by omega
   have h8':(8:Int) < (n:Int):=by omega
   rw [HC.out]
   go_enter Tryz.func80,Tryz.ntmps80
   go_wp2
   go_ret
   exact ⟨rfl,Below.refl _ _⟩
  ·have h1':¬ ((n:Int) < 1):=by omega
   have h8':¬ ((8:Int) < (n:Int)):=by omega
   have HC:Hid (qB9 cs=qJ7 cs n):=by show qB9 cs=_;unfold qB9;rw [if_neg (by rw [HZ.out];omega),HZ.out]
   obtain ⟨b0,off0,c0,rfl,hc0,hat0,_⟩:=H.out.at (show 0 < n by omega)
   have HC0:Hid ((cs[0]?.getD default).f=c0.f):=by show (cs[0]?.getD default).f=_;rw [hc0];rfl
   have HAT0:Hid (qI2 w b0 off0 c0):=by have:=hat0;rw [Nat.zero_mul,Nat.add_zero] at this;exact this
   clear hc0 hat0
   rw [HC.out]
   go_enter Tryz.func80,Tryz.ntmps80
   go_wp2
   go_loopw [16] (fun i wr=>∃ k:Nat,k≤n∧i = .int .i64 (k:Int)∧qJ7 cs k=0∧Below w.heap.size w wr) (fun i _=>n - (intOf i).toNat)
   case atStart=>exact ⟨0,Nat.zero_le _,rfl,rfl,Below.refl _ _⟩
   case round =>
    obtain ⟨k,hk,rfl,hz,hnx⟩:=hrel
    have HK0:Hid (qJ7 cs k=0):=hz
    clear hz
    by_cases hlt:k < n
    ·obtain ⟨b,off,c,e,hc,hat,hin⟩:=H.out.at hlt
     cases e
     have hlt':(k:Int) < (n:Int):=by omega
     have hA:=hat.below hnx
     have hl:=hA.lt
     obtain ⟨u0,u1,u2,u3,u4⟩:=hA
     have HN:Hid (qJ7 cs (k+1)=if qU7 c=0 then (if c.f=c0.f then 0 else 1) else qU7 c):=by show qJ7 cs (k+1)=_;rw [QA9 hc HK0.out,HC0.out]
     obtain ⟨V,hV⟩:∃ V,V=wr.alloc (.cells #[.int .i64 c.e,.int .i64 c.f,.slice c.ra c.rn c.rc,.slice c.fa c.fn c.fc,.slice c.ca c.cn c.cc] 71):=⟨_,rfl⟩
     have BV:Below wr.heap.size wr V:=by rw [hV];exact zN
     have BW:Below w.heap.size w V:=hnx.trans (BV.mono hnx.size)
     have KV:Hid (qQ4 V wr.heap.size c):=by rw [hV];exact qQ4.new wr c _
     obtain ⟨q,hq⟩:∃ q,qU7 c=q:=⟨_,rfl⟩
     rw [hq] at HN
     have HQ:Hid (Calls Tryz.prog 105 #[.agg #[.int .i64 c.e,.int .i64 c.f,.slice c.ra c.rn c.rc,.slice c.fa c.fn c.fc,.slice c.ca c.cn c.cc]] V fun e w'=>e = .returned (.int .i64 q)∧Below V.heap.size V w'):=by rw [← hq];exact qV8 c V (HLE.out.le k c hc) (HLE.out.rc k c hc).1 (HLE.out.rc k c hc).2 (hin.below BW)
     clear hq hc hat hin
     go_wp2_with fail
     rw [← hV]
     clear hV u0 u1 u2 u3 u4
     refine HQ.out.mono ?_
     rintro e w1 ⟨rfl,hb1⟩
     have B1:Below w.heap.size w w1:=BW.trans (hb1.mono BW.size)
     by_cases q0:q=0
     ·have qb:(q != 0)=false:=by simp [q0]
      rw [if_pos q0] at HN
      have hK:=KV.out.below hb1
      have hl1:=hK.lt
      obtain ⟨x0,x1,_⟩:=hK
      have hB1:=HAT0.out.below B1
      have hl0:=hB1.lt
      obtain ⟨y0,y1,_⟩:=hB1
      by_cases hf:c.f=c0.f
      ·have fb:(c.f != c0.f)=false:=by simp [hf]
       rw [if_pos hf] at HN
       clear q0 hf
       go_wp2
       go_quiet (fail)
       go_wp2
       exact ⟨⟨k+1,by omega,by go_num,HN.out,below_drewN B1 _⟩,by simp [intOf];omega⟩
      ·have fb:(c.f != c0.f)=true:=by simp [hf]
       rw [if_neg hf] at HN
       have HE:Hid (qJ7 cs n=1):=qR7 cs (k+1) n 1 (by omega) HN.out (by omega)
       clear q0 hf
       go_wp2
       go_quiet (fail)
       go_wp2
       go_ret
       exact ⟨by rw [HE.out];rfl,below_drewN B1 _⟩
     ·have qb:(q != 0)=true:=by simp [q0]
      rw [if_neg q0] at HN
      have HE:Hid (qJ7 cs n=q):=qR7 cs (k+1) n q q0 HN.out (by omega)
      clear q0
      go_wp2
      go_ret
      exact ⟨by rw [HE.out];rfl,B1⟩
    ·have hkn:k=n:=by omega
     have hlt':¬ ((k:Int) < (n:Int)):=by omega
     have HE:Hid (qJ7 cs n=0):=by rw [← hkn];exact HK0.out
     clear hkn
     go_wp2
     go_ret
     exact ⟨by rw [HE.out];rfl,hnx⟩

theorem QP9 (i u:Int) (sa sa':Option Addr) (n c c':Nat) (ss:List StI) (la la':Option Addr) (m d d':Nat) (ls:List LkI) (w:World) (hn:n≤1048576) (hm:m≤1048576) (h1:qL2 w sa n ss) (h2:qL2 w sa' n ss) (h3:qJ9 w la m ls) (h4:qJ9 w la' m ls) :
  Calls Tryz.prog 12 #[.agg #[.int .i64 i,.int .i64 u,.slice sa n c,.slice la m d],.agg #[.int .i64 i,.int .i64 u,.slice sa' n c',.slice la' m d']] w fun e w'=>e = .returned (.bool true)∧Below w.heap.size w w':=by
 obtain ⟨V,hV⟩:∃ V,V=(w.alloc (.cells #[.int .i64 i,.int .i64 u,.slice sa n c,.slice la m d] 36)).alloc (.cells #[.int .i64 i,.int .i64 u,.slice sa' n c',.slice la' m d'] 36):=⟨_,rfl⟩
 have B0:Below w.heap.size w V:=by rw [hV];exact (zN).alloc (by simp) _
 have x2:V.cell? ⟨w.heap.size,3,none⟩=some (.slice la m d):=by rw [hV];simp
 have y2:V.cell? ⟨w.heap.size+1,3,none⟩=some (.slice la' m d'):=by rw [hV];simp
 have hz:V.heap.size=w.heap.size+1+1:=by rw [hV];simp
 have HS:Hid (Calls Tryz.prog 36 #[.slice sa n c,.slice sa' n c'] V fun e w'=>e = .returned (.bool true)∧Below V.heap.size V w'):=QG4 sa sa' n c c' ss V hn (h1.below B0) (h2.below B0)
 have HL:Hid (∀ w2,Below w.heap.size w w2→Calls Tryz.prog 37 #[.slice la m d,.slice la' m d'] w2 fun e w'=>e = .returned (.bool true)∧Below w2.heap.size w2 w'):=fun w2 hb=>eqLocks_same la la' m d d' ls w2 hm (h3.below hb) (h4.below hb)
 have XX:Hid (V.cell? ⟨w.heap.size,3,none⟩=some (.slice la m d)∧V.cell? ⟨w.heap.size+1,3,none⟩=some (.slice la' m d')∧V.heap.size=w.heap.size+1+1):=⟨x2,y2,hz⟩
 clear h1 h2 h3 h4 x2 y2 hz
 go_enter Tryz.func12,Tryz.ntmps12
 go_wp2_with fail
 rw [← hV]
 clear hV
 refine HS.out.mono ?_
 rintro e w1 ⟨rfl,hb1⟩
 obtain ⟨x3,y3,hz⟩:=XX.out
 have x3:=(hb1.cell (p:=⟨w.heap.size,3,none⟩) (by show w.heap.size < V.heap.size;omega)).trans x3
 have y3:=(hb1.cell (p:=⟨w.heap.size+1,3,none⟩) (by show w.heap.size+1 < V.heap.size;omega)).trans y3
 have B1:=B0.trans (hb1.mono B0.size)
 have l1:w.heap.size < w1.heap.size:=by have:=hb1.size;omega
 have l2:w.heap.size+1 < w1.heap.size:=by have:=hb1.size;omega
 clear hz hb1
 go_wp2_with fail
 refine (HL.out _ B1).mono ?_
 rintro e w2 ⟨rfl,hb2⟩
 clear x3 y3 l1 l2
 go_wp2
 go_ret
 exact ⟨rfl,B1.trans (hb2.mono B1.size)⟩

section
theorem QZ0 (a0 a1 a2 a3 b0 b1 b2 b3:Int):decide ((⟨a0,a1,a2,a3⟩:LkI)=⟨b0,b1,b2,b3⟩)=(a0==b0&&a1==b1&&a2==b2&&a3==b3):=by
 rw [Bool.eq_iff_iff]
 simp only [decide_eq_true_eq,LkI.mk.injEq,Bool.and_eq_true,beq_iff_eq,and_assoc]
theorem Lock_neq (r s:LkI) (w:World):(binOp .neq 103 (.agg #[.int .i64 r.e,.int .i64 r.c,.int .i64 r.p,.int .i64 r.f]) (.agg #[.int .i64 s.e,.int .i64 s.c,.int .i64 s.p,.int .i64 s.f])).run Tryz.prog w = .ok (.bool (!decide (r=s))) w:=by
 obtain ⟨a0,a1,a2,a3⟩:=r
 obtain ⟨b0,b1,b2,b3⟩:=s
 simp only
 rw [QZ0]
 cases e0:(a0==b0)
 ·simp [go_sem,e0]
 cases e1:(a1==b1)
 ·simp [go_sem,e0,e1]
 cases e2:(a2==b2)
 ·simp [go_sem,e0,e1,e2]
 cases e3:(a3==b3)
 ·simp [go_sem,e0,e1,e2,e3]
 ·simp [go_sem,e0,e1,e2,e3]
attribute [local go_sem ↓] Lock_neq
theorem QK3 (a b:Option Addr) (n m ca cb:Nat) (xs ys:List LkI) (w:World) (hn:n≤1048576) (hm:m≤1048576) (h:qJ9 w a n xs) (h':qJ9 w b m ys) :
  Calls Tryz.prog 83 #[.slice a n ca,.slice b m cb] w fun e w'=>e = .returned (.bool (decide (xs=ys)))∧Below w.heap.size w w':=by
 have H:Hid (qJ9 w a n xs):=h
 have H':Hid (qJ9 w b m ys):=h'
 have HX:Hid (xs.length=n):=h.1
 have HY:Hid (ys.length=m):=h'.1
 clear h h'
 have hn':(n:Int)≤1048576:=by omega
 have hm':(m:Int)≤1048576:=by omega
 by_cases hnm:n=m
 ·subst hnm
  obtain ⟨t,ht⟩:∃ t,decide (xs=ys)=t:=⟨_,rfl⟩
  have HT:Hid (decide (xs=ys)=t):=ht
  rw [ht]
  clear ht
  go_enter Tryz.func83,Tryz.ntmps83
  go_wp2
  go_loopw [13] (fun i wr=>∃ k:Nat,k≤n∧i = .int .i64 (k:Int)∧xs.take k=ys.take k∧∃ q,wr=w.drewN q) (fun i _=>n - (intOf i).toNat)
  case atStart=>exact ⟨0,Nat.zero_le _,rfl,by simp,0,rfl⟩
  case round =>
   obtain ⟨k,hk,rfl,htk,q,rfl⟩:=hrel
   have HTK:Hid (xs.take k=ys.take k):=htk
   clear htk
   by_cases hlt:k < n
   ·obtain ⟨b1,o1,s,e1,hs,hr,_⟩:=H.out.at hlt
    obtain ⟨b2,o2,s2,e2,hs2,hr2,_⟩:=H'.out.at hlt
    subst e1 e2
    have HS:Hid (xs[k]? = some s):=hs
    have HS2:Hid (ys[k]? = some s2):=hs2
    have hb1:b1 < w.heap.size:=zL w ⟨b1,_,none⟩ hr.1
    have hb2:b2 < w.heap.size:=zL w ⟨b2,_,none⟩ hr2.1
    clear hs hs2
    obtain ⟨h0,h1,h2,h3⟩:=hr
    obtain ⟨g0,g1,g2,g3⟩:=hr2
    have hlt':(k:Int) < (n:Int):=by omega
    by_cases hsame:s=s2
    ·have HN:Hid (xs.take (k+1)=ys.take (k+1)):=by
      show xs.take (k+1)=ys.take (k+1)
      rw [List.take_add_one,List.take_add_one,HTK.out,HS.out,HS2.out,hsame]
     have hd:decide (s=s2)=true:=decide_eq_true hsame
     skip
     clear hsame
     go_wp2
     go_quiet (fail)
     go_wp2
     exact ⟨⟨k+1,by omega,by go_num,HN.out,_,rfl⟩,by simp [intOf];omega⟩
    ·have HE:Hid (t=false):=by
      show t=false
      rw [← HT.out]
      refine decide_eq_false (fun e=>hsame ?_)
      have h1:=HS.out
      rw [e,HS2.out] at h1
      exact (Option.some.inj h1).symm
     have hd:decide (s=s2)=false:=decide_eq_false hsame
     skip
     clear hsame
     go_wp2
     go_quiet (fail)
     go_wp2
     go_ret
     exact ⟨by rw [HE.out];rfl,bdN (bdN (Below.refl _ _) _) _⟩
   ·have hkn:k=n:=by omega
    subst hkn
    have HE:Hid (t=true):=by
     show t=true
     rw [← HT.out]
     refine decide_eq_true ?_
     have:=HTK.out
     rw [List.take_of_length_le (by rw [HX.out];exact Nat.le_refl _),List.take_of_length_le (by rw [HY.out];exact Nat.le_refl _)] at this
     exact this
    go_wp2
    go_ret
    exact ⟨by rw [HE.out];rfl,bdN (Below.refl _ _) _⟩
 ·have HE:Hid (decide (xs=ys)=false):=decide_eq_false (fun e=>hnm (by rw [← HX.out,← HY.out,e]))
  rw [HE.out]
  have hnb:((n:Int) != (m:Int))=true:=by simp;omega
  have hnm':¬ ((n:Int)=(m:Int)):=by omega
  go_enter Tryz.func83,Tryz.ntmps83
  go_wp2
  go_ret
  exact ⟨rfl,Below.refl _ _⟩
end

theorem isRepId_c (i c v:Int) (w:World):Calls Tryz.prog 106 #[.int .i64 i,.agg #[.int .i64 c,.int .i64 v]] w fun e w'=>e = .returned (.bool (decide (c=0)&&inR i 1 v))∧Below w.heap.size w w':=by
 have hB:Below w.heap.size w (w.alloc (.cells #[.int .i64 c,.int .i64 v] 178)):=zN
 unfold inR
 by_cases q0:c=0
 ·have b0:(c==0)=true:=by simp [q0]
  by_cases q1:1≤i
  ·by_cases q2:i≤v
   ·have e:(decide (c=0)&&(decide (1≤i)&&decide (i≤v)))=true:=by simp [q0,q1,q2]
    rw [e]
    clear e q0
    go_enter Tryz.func106,Tryz.ntmps106
    go_wp2
    go_ret
    exact ⟨rfl,hB⟩
   ·have e:(decide (c=0)&&(decide (1≤i)&&decide (i≤v)))=false:=by simp [q0,q1,q2]
    rw [e]
    clear e q0
    go_enter Tryz.func106,Tryz.ntmps106
    go_wp2
    go_ret
    exact ⟨rfl,hB⟩
  ·have e:(decide (c=0)&&(decide (1≤i)&&decide (i≤v)))=false:=by simp [q1]
   rw [e]
   clear e q0
   go_enter Tryz.func106,Tryz.ntmps106
   go_wp2
   go_ret
   exact ⟨rfl,hB⟩
 ·have b0:(c==0)=false:=by simp [q0]
  have e:(decide (c=0)&&(decide (1≤i)&&decide (i≤v)))=false:=by simp [q0]
  rw [e]
  clear e q0
  go_enter Tryz.func106,Tryz.ntmps106
  go_wp2
  go_ret
  exact ⟨rfl,hB⟩
/-- A replica's number and what is sure of it are in their bounds. -/
def qH7 (f:Int) (r:qG5):Bool:=inR r.i 1 (3 * f+1)&&inR r.u 0 (r.sn:Int)
theorem qS2 (f:Int) (hf:1≤f∧f≤2) (r:qG5) (w:World) (hsn:r.sn≤1048576) :
  Calls Tryz.prog 81 #[.agg #[.int .i64 r.i,.int .i64 r.u,.slice r.sa r.sn r.sc,.slice r.la r.ln r.lc],.int .i64 f] w fun e w'=>e = .returned (.bool (qH7 f r))∧Below w.heap.size w w':=by
 obtain ⟨t,ht⟩:∃ t,qH7 f r=t:=⟨_,rfl⟩
 rw [ht]
 have hfr:inR f 1 2=true:=by simp [inR];omega
 have HN:Hid (∀ W:World,Calls Tryz.prog 107 #[.int .i64 f] W fun e w'=>e = .returned (.agg #[.int .i64 0,.int .i64 (3 * f+1)])∧Below W.heap.size W w'):=fun W=>by
  have q:=QH9 f W
  unfold GivesNF nfCode nfVal at q
  rw [if_pos hfr,if_pos hfr] at q
  exact q
 obtain ⟨t1,ht1⟩:∃ t1,inR r.i 1 (3 * f+1)=t1:=⟨_,rfl⟩
 have HI:Hid (∀ W:World,Calls Tryz.prog 106 #[.int .i64 r.i,.agg #[.int .i64 0,.int .i64 (3 * f+1)]] W fun e w'=>e = .returned (.bool t1)∧Below W.heap.size W w'):=fun W=>by
  have q:=isRepId_c r.i 0 (3 * f+1) W
  rw [ht1,show decide ((0:Int)=0)=true from rfl,Bool.true_and] at q
  exact q
 obtain ⟨V,hV⟩:∃ V,V=w.alloc (.cells #[.int .i64 r.i,.int .i64 r.u,.slice r.sa r.sn r.sc,.slice r.la r.ln r.lc] 36):=⟨_,rfl⟩
 have BV:Hid (Below w.heap.size w V):=by show Below _ _ _;rw [hV];exact zN
 have XV:qE3 w.heap.size [.int .i64 r.i,.int .i64 r.u,.slice r.sa r.sn r.sc,.slice r.la r.ln r.lc] V:=by rw [hV];exact (qD6 w _ _).out
 have hVl:w.heap.size < V.heap.size:=by rw [hV];simp
 have v0:=XV 0 _ rfl
 have v1:=XV 1 _ rfl
 have v2:=XV 2 _ rfl
 have v3:=XV 3 _ rfl
 have hsn':(r.sn:Int)≤1048576:=by omega
 clear XV hfr
 cases t1
 ·obtain rfl:t=false:=by rw [← ht];unfold qH7;rw [ht1];rfl
  clear ht ht1
  go_enter Tryz.func81,Tryz.ntmps81
  go_upto_region 1 with fail
  rw [← hV]
  clear hV
  refine wp_region_held_drew (S:=fun w'=>(∀ b o,b < V.heap.size→w'.cell? ⟨b,o,none⟩=V.cell? ⟨b,o,none⟩)∧Below V.heap.size V w') (by kernel_rfl) (qB6 _) (fun hHeld=>?_)
  refine Zk.go [0,1,2] ?_
  iterate 3
   refine Zk.st (v:=?_) rfl ?_ ?_
   rotate_left 1
   ·intro w hSw;(try dsimp only at hSw);go_simp;try (with_reducible rfl)
   try simp only [Act.put,zA,zB,zC,zD,zE,zF]
  refine Zk.fin ?_
  refine Zk.rd (i:=3) rfl (fun K hK=>?_)
  go_simp
  refine (HN.out _).mono ?_
  rintro d wA ⟨rfl,hbA⟩
  have hS:=qA7 hHeld hbA
  refine hK.out _ _ hS (fun hHeld=>?_)
  clear hK K
  try simp only [Act.put,zA,zB,zC,zD,zE,zF]
  refine Zk.rd (i:=4) rfl (fun K hK=>?_)
  go_simp
  refine (HI.out _).mono ?_
  rintro d wB ⟨rfl,hbB⟩
  have hS:=qA7 hHeld hbB
  refine hK.out _ _ hS (fun hHeld=>?_)
  clear hK K
  try simp only [Act.put,zA,zB,zC,zD,zE,zF]
  refine Zk.go [5,6,7,8,9,10,11,12,13,14,15,16,17] ?_
  refine Zk.st (v:=?_) rfl ?_ ?_
  rotate_left 1
  ·intro w hSw;(try dsimp only at hSw);go_simp;try (with_reducible rfl)
  try simp only [Act.put,zA,zB,zC,zD,zE,zF]
  iterate 3 (refine Zk.un rfl ?_;try simp only [Act.put,zA,zB,zC,zD,zE,zF])
  iterate 2
   refine Zk.st (v:=?_) rfl ?_ ?_
   rotate_left 1
   ·intro w hSw;(try dsimp only at hSw);go_simp;try (with_reducible rfl)
   try simp only [Act.put,zA,zB,zC,zD,zE,zF]
  iterate 6 (refine Zk.un rfl ?_;try simp only [Act.put,zA,zB,zC,zD,zE,zF])
  refine Zk.st (v:=?_) rfl ?_ ?_
  rotate_left 1
  ·intro w hSw;(try dsimp only at hSw);go_simp;try (with_reducible rfl)
  try simp only [Act.put,zA,zB,zC,zD,zE,zF]
  refine Zk.fin ?_
  refine Zk.rd (i:=18) rfl (fun K hK=>?_)
  go_simp
  refine hK.out _ _ (by assumption) (fun hHeld=>?_)
  clear hK K
  try simp only [Act.put,zA,zB,zC,zD,zE,zF]
  refine wpAnyH_done (by kernel_rfl) ?_ _
  go_wp2
  go_ret
  exact ⟨rfl,BV.out.trans (hHeld.2.mono BV.out.size)⟩
 ·by_cases hu:0≤r.u
  ·by_cases hu2:r.u≤(r.sn:Int)
   ·obtain rfl:t=true:=by rw [← ht];unfold qH7;rw [ht1];simp [inR,hu,hu2]
    clear ht ht1
    go_enter Tryz.func81,Tryz.ntmps81
    go_upto_region 1 with fail
    rw [← hV]
    clear hV
    refine wp_region_held_drew (S:=fun w'=>(∀ b o,b < V.heap.size→w'.cell? ⟨b,o,none⟩=V.cell? ⟨b,o,none⟩)∧Below V.heap.size V w') (by kernel_rfl) (qB6 _) (fun hHeld=>?_)
    refine Zk.go [0,1,2] ?_
    iterate 3
     refine Zk.st (v:=?_) rfl ?_ ?_
     rotate_left 1
     ·intro w hSw;(try dsimp only at hSw);go_simp;try (with_reducible rfl)
     try simp only [Act.put,zA,zB,zC,zD,zE,zF]
    refine Zk.fin ?_
    refine Zk.rd (i:=3) rfl (fun K hK=>?_)
    go_simp
    refine (HN.out _).mono ?_
    rintro d wA ⟨rfl,hbA⟩
    have hS:=qA7 hHeld hbA
    refine hK.out _ _ hS (fun hHeld=>?_)
    clear hK K
    try simp only [Act.put,zA,zB,zC,zD,zE,zF]
    refine Zk.rd (i:=4) rfl (fun K hK=>?_)
    go_simp
    refine (HI.out _).mono ?_
    rintro d wB ⟨rfl,hbB⟩
    have hS:=qA7 hHeld hbB
    refine hK.out _ _ hS (fun hHeld=>?_)
    clear hK K
    try simp only [Act.put,zA,zB,zC,zD,zE,zF]
    refine Zk.go [5,6,7,8,9,10,11,12,13,14,15,16,17] ?_
    iterate 13
     refine Zk.st (v:=?_) rfl ?_ ?_
     rotate_left 1
     ·intro w hSw;(try dsimp only at hSw);go_simp;try (with_reducible rfl)
     try simp only [Act.put,zA,zB,zC,zD,zE,zF]
    refine Zk.fin ?_
    refine Zk.rd (i:=18) rfl (fun K hK=>?_)
    go_simp
    refine hK.out _ _ (by assumption) (fun hHeld=>?_)
    clear hK K
    try simp only [Act.put,zA,zB,zC,zD,zE,zF]
    refine wpAnyH_done (by kernel_rfl) ?_ _
    go_wp2
    go_ret
    exact ⟨rfl,BV.out.trans (hHeld.2.mono BV.out.size)⟩
   ·obtain rfl:t=false:=by rw [← ht];unfold qH7;rw [ht1];simp [inR,hu,hu2]
    clear ht ht1
    go_enter Tryz.func81,Tryz.ntmps81
    go_upto_region 1 with fail
    rw [← hV]
    clear hV
    refine wp_region_held_drew (S:=fun w'=>(∀ b o,b < V.heap.size→w'.cell? ⟨b,o,none⟩=V.cell? ⟨b,o,none⟩)∧Below V.heap.size V w') (by kernel_rfl) (qB6 _) (fun hHeld=>?_)
    refine Zk.go [0,1,2] ?_
    iterate 3
     refine Zk.st (v:=?_) rfl ?_ ?_
     rotate_left 1
     ·intro w hSw;(try dsimp only at hSw);go_simp;try (with_reducible rfl)
     try simp only [Act.put,zA,zB,zC,zD,zE,zF]
    refine Zk.fin ?_
    refine Zk.rd (i:=3) rfl (fun K hK=>?_)
    go_simp
    refine (HN.out _).mono ?_
    rintro d wA ⟨rfl,hbA⟩
    have hS:=qA7 hHeld hbA
    refine hK.out _ _ hS (fun hHeld=>?_)
    clear hK K
    try simp only [Act.put,zA,zB,zC,zD,zE,zF]
    refine Zk.rd (i:=4) rfl (fun K hK=>?_)
    go_simp
    refine (HI.out _).mono ?_
    rintro d wB ⟨rfl,hbB⟩
    have hS:=qA7 hHeld hbB
    refine hK.out _ _ hS (fun hHeld=>?_)
    clear hK K
    try simp only [Act.put,zA,zB,zC,zD,zE,zF]
    refine Zk.go [5,6,7,8,9,10,11,12,13,14,15,16,17] ?_
    iterate 13
     refine Zk.st (v:=?_) rfl ?_ ?_
     rotate_left 1
     ·intro w hSw;(try dsimp only at hSw);go_simp;try (with_reducible rfl)
     try simp only [Act.put,zA,zB,zC,zD,zE,zF]
    refine Zk.fin ?_
    refine Zk.rd (i:=18) rfl (fun K hK=>?_)
    go_simp
    refine hK.out _ _ (by assumption) (fun hHeld=>?_)
    clear hK K
    try simp only [Act.put,zA,zB,zC,zD,zE,zF]
    refine wpAnyH_done (by kernel_rfl) ?_ _
    go_wp2
    go_ret
    exact ⟨rfl,BV.out.trans (hHeld.2.mono BV.out.size)⟩
  ·obtain rfl:t=false:=by rw [← ht];unfold qH7;rw [ht1];simp [inR,hu]
   clear ht ht1
   go_enter Tryz.func81,Tryz.ntmps81
   go_upto_region 1 with fail
   rw [← hV]
   clear hV
   refine wp_region_held_drew (S:=fun w'=>(∀ b o,b < V.heap.size→w'.cell? ⟨b,o,none⟩=V.cell? ⟨b,o,none⟩)∧Below V.heap.size V w') (by kernel_rfl) (qB6 _) (fun hHeld=>?_)
   refine Zk.go [0,1,2] ?_
   iterate 3
    refine Zk.st (v:=?_) rfl ?_ ?_
    rotate_left 1
    ·intro w hSw;(try dsimp only at hSw);go_simp;try (with_reducible rfl)
    try simp only [Act.put,zA,zB,zC,zD,zE,zF]
   refine Zk.fin ?_
   refine Zk.rd (i:=3) rfl (fun K hK=>?_)
   go_simp
   refine (HN.out _).mono ?_
   rintro d wA ⟨rfl,hbA⟩
   have hS:=qA7 hHeld hbA
   refine hK.out _ _ hS (fun hHeld=>?_)
   clear hK K
   try simp only [Act.put,zA,zB,zC,zD,zE,zF]
   refine Zk.rd (i:=4) rfl (fun K hK=>?_)
   go_simp
   refine (HI.out _).mono ?_
   rintro d wB ⟨rfl,hbB⟩
   have hS:=qA7 hHeld hbB
   refine hK.out _ _ hS (fun hHeld=>?_)
   clear hK K
   try simp only [Act.put,zA,zB,zC,zD,zE,zF]
   refine Zk.go [5,6,7,8,9,10,11,12,13,14,15,16,17] ?_
   iterate 6
    refine Zk.st (v:=?_) rfl ?_ ?_
    rotate_left 1
    ·intro w hSw;(try dsimp only at hSw);go_simp;try (with_reducible rfl)
    try simp only [Act.put,zA,zB,zC,zD,zE,zF]
   iterate 6 (refine Zk.un rfl ?_;try simp only [Act.put,zA,zB,zC,zD,zE,zF])
   refine Zk.st (v:=?_) rfl ?_ ?_
   rotate_left 1
   ·intro w hSw;(try dsimp only at hSw);go_simp;try (with_reducible rfl)
   try simp only [Act.put,zA,zB,zC,zD,zE,zF]
   refine Zk.fin ?_
   refine Zk.rd (i:=18) rfl (fun K hK=>?_)
   go_simp
   refine hK.out _ _ (by assumption) (fun hHeld=>?_)
   clear hK K
   try simp only [Act.put,zA,zB,zC,zD,zE,zF]
   refine wpAnyH_done (by kernel_rfl) ?_ _
   go_wp2
   go_ret
   exact ⟨rfl,BV.out.trans (hHeld.2.mono BV.out.size)⟩

def f0C (cs:List qA1):Int:=(cs[0]?.getD default).f
def qK9 (E:qH4) (cs:List qA1) (r:qG5):Int:=if qB9 cs=0 then (if qH7 (f0C cs) r=true then (if 40 < r.sn then 2 else if qF4 E r.ss r.sn=some r.ls then 0 else 10) else 3) else qB9 cs
structure RW (w:World) (r:qG5) (W:World):Prop where
 bx:qE3 w.heap.size [.int .i64 r.i,.int .i64 r.u,.slice r.sa r.sn r.sc,.slice r.la r.ln r.lc] W
 rs:qI3 (w.heap.size+1) [.slice none 0 0,.slice none 0 0,.slice none 0 0] W
 lt:w.heap.size+1 < W.heap.size
 bl:Below w.heap.size w W
theorem RW.below {w:World} {r:qG5} {W W':World} (h:RW w r W) (hb:Below W.heap.size W W'):RW w r W' :=
 ⟨((qE3.hold h.bx (Nat.lt_of_succ_lt h.lt)).below hb).out,qI3.below h.rs h.lt hb,Nat.lt_of_lt_of_le h.lt hb.size,h.bl.trans (hb.mono h.bl.size)⟩
theorem RW.new (w:World) (r:qG5):RW w r ((w.alloc (.cells #[.int .i64 r.i,.int .i64 r.u,.slice r.sa r.sn r.sc,.slice r.la r.ln r.lc] 36)).alloc (.cells #[.slice none 0 0,.slice none 0 0,.slice none 0 0] 91)):=by
 have e:w.heap.size+1=(w.alloc (.cells #[.int .i64 r.i,.int .i64 r.u,.slice r.sa r.sn r.sc,.slice r.la r.ln r.lc] 36)).heap.size:=by simp
 refine ⟨((qD6 w _ _).below (zN)).out,?_,by simp,(zN).alloc (by simp) _⟩
 rw [e]
 exact qG8 _ _ _
def RebR (r:qG5) (a:Option Addr) (m cap:Nat) (k:Int) (w:World) (d:Ending) (w':World):Prop :=
 Below w.heap.size w w'∧(k≠0→d = .returned (.tuple #[.agg #[.slice none 0 0,.slice none 0 0,.slice none 0 0],.int .i64 k]))∧(k=0→∃ (sa:Option Addr) (sc:Nat) (la:Option Addr) (lc:Nat),d = .returned (.tuple #[.agg #[.slice a m cap,.slice sa r.sn sc,.slice la r.ln lc],.int .i64 0])∧qE7 w' w.heap.size (.slice sa r.sn sc) r.ss∧qB0 w' w.heap.size (.slice la r.ln lc) r.ls)
theorem f_of {c:qA1} (h:qU7 c=0):1≤c.f∧c.f≤2:=by
 have:=(QG6 h).2.1
 simpa [inR] using this
theorem QZ6 (E:qH4) (r:qG5) (a:Option Addr) (m cap:Nat) (cs:List qA1) (w:World) (hr:qD8 w r) (hle:qK5 1048576 r) (hc:qA5 w a m cs) (hcl:qF1 1048576 cs) (hm:m≤1048576) (hEr:qN8 1 w) (hH:qD7 w) (k:Int) (hk:qB9 cs=k) (hk0:k≠0) :
  Calls Tryz.prog 49 #[.agg #[.int .i64 r.i,.int .i64 r.u,.slice r.sa r.sn r.sc,.slice r.la r.ln r.lc],.slice a m cap] w fun d w'=>RebR r a m cap k w d w':=by
 have hsn:=hle.said
 have hln:=hle.locks
 have hsn':(r.sn:Int)≤1048576:=by omega
 have HCF:Hid (∀ W:World,Below w.heap.size w W→Calls Tryz.prog 80 #[.slice a m cap] W fun e w'=>e = .returned (.int .i64 k)∧Below W.heap.size W w'):=fun W hb=>by rw [← hk];exact qJ3 a m cap cs W hm hcl (hc.below hb)
 obtain ⟨V,hV⟩:∃ V,V=(w.alloc (.cells #[.int .i64 r.i,.int .i64 r.u,.slice r.sa r.sn r.sc,.slice r.la r.ln r.lc] 36)).alloc (.cells #[.slice none 0 0,.slice none 0 0,.slice none 0 0] 91):=⟨_,rfl⟩
 have W0:Hid (RW w r V):=by show RW w r V;rw [hV];exact RW.new w r
 have kb:(k != 0)=true:=by simp [hk0]
 clear hr hc hcl hEr hH hk hle
 go_enter Tryz.func49,Tryz.ntmps49
 go_upto_region 1 with fail
 rw [← hV]
 clear hV
 go_wp2_with fail
 refine (HCF.out _ W0.out.bl).mono ?_
 rintro d w1 ⟨rfl,hb1⟩
 have W1b:=qD4 (W0.out.below hb1)
 clear hb1 W0 HCF
 have u0:=W1b.out.rs.1 0 _ rfl
 have u1:=W1b.out.rs.1 1 _ rfl
 have u2:=W1b.out.rs.1 2 _ rfl
 have f0:=W1b.out.rs.2 0
 have f1:=W1b.out.rs.2 1
 have f2:=W1b.out.rs.2 2
 have hul:=W1b.out.lt
 go_wp2_with fail
 refine bodyPost_ret (v:=.tuple #[.agg #[.slice none 0 0,.slice none 0 0,.slice none 0 0],.int .i64 k]) (by simp [results,Tryz.results49,go_sem,u0,u1,u2,hul]) rfl ?_
 exact ⟨((W1b.out.bl.setCell (Nat.le_succ _) _).setCell (Nat.le_succ _) _).setCell (Nat.le_succ _) _,fun _=>rfl,fun q=>absurd q (by first | assumption | decide)⟩
theorem QP4 (E:qH4) (r:qG5) (a:Option Addr) (m cap:Nat) (cs:List qA1) (w:World) (hr:qD8 w r) (hle:qK5 1048576 r) (hc:qA5 w a m cs) (hcl:qF1 1048576 cs) (hm:m≤1048576) (hEr:qN8 1 w) (hH:qD7 w) (hk:qB9 cs=0) (hbd:qH7 (f0C cs) r=false) :
  Calls Tryz.prog 49 #[.agg #[.int .i64 r.i,.int .i64 r.u,.slice r.sa r.sn r.sc,.slice r.la r.ln r.lc],.slice a m cap] w fun d w'=>RebR r a m cap 3 w d w':=by
 have hsn:=hle.said
 have hln:=hle.locks
 have hsn':(r.sn:Int)≤1048576:=by omega
 have HCF:Hid (∀ W:World,Below w.heap.size w W→Calls Tryz.prog 80 #[.slice a m cap] W fun e w'=>e = .returned (.int .i64 0)∧Below W.heap.size W w'):=fun W hb=>by rw [← hk];exact qJ3 a m cap cs W hm hcl (hc.below hb)
 obtain ⟨V,hV⟩:∃ V,V=(w.alloc (.cells #[.int .i64 r.i,.int .i64 r.u,.slice r.sa r.sn r.sc,.slice r.la r.ln r.lc] 36)).alloc (.cells #[.slice none 0 0,.slice none 0 0,.slice none 0 0] 91):=⟨_,rfl⟩
 have W0:Hid (RW w r V):=by show RW w r V;rw [hV];exact RW.new w r
 obtain ⟨hm1,hm8,hok⟩:=qX7 hk
 have hml:cs.length=m:=hc.len
 have hm0:0 < m:=by omega
 have hm0':(0:Int) < (m:Int):=by omega
 obtain ⟨g,off,c0,rfl,hc0,hat,_⟩:=hc.at hm0
 obtain ⟨v0,v1,v2,v3,v4⟩:=hat
 simp only [Nat.zero_mul,Nat.add_zero] at v0 v1 v2 v3 v4
 have hgl:=zL w _ v0
 have hf0:f0C cs=c0.f:=by unfold f0C;rw [hc0];rfl
 have hff:1≤c0.f∧c0.f≤2:=f_of (hok 0 c0 hc0).1
 have HIB:Hid (∀ W:World,Calls Tryz.prog 81 #[.agg #[.int .i64 r.i,.int .i64 r.u,.slice r.sa r.sn r.sc,.slice r.la r.ln r.lc],.int .i64 c0.f] W fun e w'=>e = .returned (.bool false)∧Below W.heap.size W w'):=fun W=>by rw [← hbd,hf0];exact qS2 c0.f hff r W hsn
 have V1:Hid (∀ W:World,Below w.heap.size w W→W.cell? ⟨g,off+1,none⟩=some (.int .i64 c0.f)):=fun W hb=>(hb.cell (p:=⟨g,off+1,none⟩) hgl).trans v1
 clear hok v0 v1 v2 v3 v4 hc0 hf0 hff hbd hml
 clear hr hc hcl hEr hH hk hle
 go_enter Tryz.func49,Tryz.ntmps49
 go_upto_region 1 with fail
 rw [← hV]
 clear hV
 go_wp2_with fail
 refine (HCF.out _ W0.out.bl).mono ?_
 rintro d w1 ⟨rfl,hb1⟩
 have W1b:=qD4 (W0.out.below hb1)
 clear hb1 W0 HCF
 have x0:=W1b.out.bx 0 _ rfl
 have x1:=W1b.out.bx 1 _ rfl
 have x2:=W1b.out.bx 2 _ rfl
 have x3:=W1b.out.bx 3 _ rfl
 have y1:=V1.out _ W1b.out.bl
 have hxl:w.heap.size < w1.heap.size:=Nat.lt_of_succ_lt W1b.out.lt
 have hgl1:g < w1.heap.size:=Nat.lt_of_lt_of_le hgl W1b.out.bl.size
 go_upto_region 4 with fail
 refine wp_region_held_drew (S:=fun w'=>(∀ b o,b < w1.heap.size→w'.cell? ⟨b,o,none⟩=w1.cell? ⟨b,o,none⟩)∧Below w1.heap.size w1 w') (by kernel_rfl) (qB6 _) (fun hHeld=>?_)
 refine Zk.go [0,1,2,3,4] ?_
 iterate 5
  refine Zk.st (v:=?_) rfl ?_ ?_
  rotate_left 1
  ·intro w hSw;(try dsimp only at hSw);go_simp;try (with_reducible rfl)
  try simp only [Act.put,zA,zB,zC,zD,zE,zF]
 refine Zk.fin ?_
 refine Zk.rd (i:=5) rfl (fun K hK=>?_)
 go_simp
 refine (HIB.out _).mono ?_
 rintro d w2 ⟨rfl,hb2⟩
 have hS:=qA7 hHeld hb2
 refine hK.out _ _ hS (fun hHeld=>?_)
 clear hK K
 try simp only [Act.put,zA,zB,zC,zD,zE,zF]
 refine Zk.go [6] ?_
 refine Zk.st (v:=?_) rfl ?_ ?_
 rotate_left 1
 ·intro w hSw;(try dsimp only at hSw);go_simp;try (with_reducible rfl)
 try simp only [Act.put,zA,zB,zC,zD,zE,zF]
 refine Zk.fin ?_
 refine wpAnyH_done (by kernel_rfl) ?_ _
 have W2b:=qD4 (W1b.out.below hS.2)
 clear hHeld hS W1b x0 x1 x2 x3 y1 hb2 HIB hxl hgl1
 have u0:=W2b.out.rs.1 0 _ rfl
 have u1:=W2b.out.rs.1 1 _ rfl
 have u2:=W2b.out.rs.1 2 _ rfl
 have f0:=W2b.out.rs.2 0
 have f1:=W2b.out.rs.2 1
 have f2:=W2b.out.rs.2 2
 have hul:=W2b.out.lt
 go_wp2_with fail
 refine bodyPost_ret (v:=.tuple #[.agg #[.slice none 0 0,.slice none 0 0,.slice none 0 0],.int .i64 3]) (by simp [results,Tryz.results49,go_sem,u0,u1,u2,hul]) rfl ?_
 exact ⟨((W2b.out.bl.setCell (Nat.le_succ _) _).setCell (Nat.le_succ _) _).setCell (Nat.le_succ _) _,fun _=>rfl,fun q=>absurd q (by first | assumption | decide)⟩
theorem QZ5 (E:qH4) (r:qG5) (a:Option Addr) (m cap:Nat) (cs:List qA1) (w:World) (hr:qD8 w r) (hle:qK5 1048576 r) (hc:qA5 w a m cs) (hcl:qF1 1048576 cs) (hm:m≤1048576) (hEr:qN8 1 w) (hH:qD7 w) (hk:qB9 cs=0) (hbd:qH7 (f0C cs) r=true) (h40:40 < r.sn) :
  Calls Tryz.prog 49 #[.agg #[.int .i64 r.i,.int .i64 r.u,.slice r.sa r.sn r.sc,.slice r.la r.ln r.lc],.slice a m cap] w fun d w'=>RebR r a m cap 2 w d w':=by
 have hsn:=hle.said
 have hln:=hle.locks
 have hsn':(r.sn:Int)≤1048576:=by omega
 have HCF:Hid (∀ W:World,Below w.heap.size w W→Calls Tryz.prog 80 #[.slice a m cap] W fun e w'=>e = .returned (.int .i64 0)∧Below W.heap.size W w'):=fun W hb=>by rw [← hk];exact qJ3 a m cap cs W hm hcl (hc.below hb)
 obtain ⟨V,hV⟩:∃ V,V=(w.alloc (.cells #[.int .i64 r.i,.int .i64 r.u,.slice r.sa r.sn r.sc,.slice r.la r.ln r.lc] 36)).alloc (.cells #[.slice none 0 0,.slice none 0 0,.slice none 0 0] 91):=⟨_,rfl⟩
 have W0:Hid (RW w r V):=by show RW w r V;rw [hV];exact RW.new w r
 obtain ⟨hm1,hm8,hok⟩:=qX7 hk
 have hml:cs.length=m:=hc.len
 have hm0:0 < m:=by omega
 have hm0':(0:Int) < (m:Int):=by omega
 obtain ⟨g,off,c0,rfl,hc0,hat,_⟩:=hc.at hm0
 obtain ⟨v0,v1,v2,v3,v4⟩:=hat
 simp only [Nat.zero_mul,Nat.add_zero] at v0 v1 v2 v3 v4
 have hgl:=zL w _ v0
 have hf0:f0C cs=c0.f:=by unfold f0C;rw [hc0];rfl
 have hff:1≤c0.f∧c0.f≤2:=f_of (hok 0 c0 hc0).1
 have HIB:Hid (∀ W:World,Calls Tryz.prog 81 #[.agg #[.int .i64 r.i,.int .i64 r.u,.slice r.sa r.sn r.sc,.slice r.la r.ln r.lc],.int .i64 c0.f] W fun e w'=>e = .returned (.bool true)∧Below W.heap.size W w'):=fun W=>by rw [← hbd,hf0];exact qS2 c0.f hff r W hsn
 have V1:Hid (∀ W:World,Below w.heap.size w W→W.cell? ⟨g,off+1,none⟩=some (.int .i64 c0.f)):=fun W hb=>(hb.cell (p:=⟨g,off+1,none⟩) hgl).trans v1
 have h40':(40:Int) < (r.sn:Int):=by omega
 clear hok v0 v1 v2 v3 v4 hc0 hf0 hff hbd hml
 clear hr hc hcl hEr hH hk hle
 go_enter Tryz.func49,Tryz.ntmps49
 go_upto_region 1 with fail
 rw [← hV]
 clear hV
 go_wp2_with fail
 refine (HCF.out _ W0.out.bl).mono ?_
 rintro d w1 ⟨rfl,hb1⟩
 have W1b:=qD4 (W0.out.below hb1)
 clear hb1 W0 HCF
 have x0:=W1b.out.bx 0 _ rfl
 have x1:=W1b.out.bx 1 _ rfl
 have x2:=W1b.out.bx 2 _ rfl
 have x3:=W1b.out.bx 3 _ rfl
 have y1:=V1.out _ W1b.out.bl
 have hxl:w.heap.size < w1.heap.size:=Nat.lt_of_succ_lt W1b.out.lt
 have hgl1:g < w1.heap.size:=Nat.lt_of_lt_of_le hgl W1b.out.bl.size
 go_upto_region 4 with fail
 refine wp_region_held_drew (S:=fun w'=>(∀ b o,b < w1.heap.size→w'.cell? ⟨b,o,none⟩=w1.cell? ⟨b,o,none⟩)∧Below w1.heap.size w1 w') (by kernel_rfl) (qB6 _) (fun hHeld=>?_)
 refine Zk.go [0,1,2,3,4] ?_
 iterate 5
  refine Zk.st (v:=?_) rfl ?_ ?_
  rotate_left 1
  ·intro w hSw;(try dsimp only at hSw);go_simp;try (with_reducible rfl)
  try simp only [Act.put,zA,zB,zC,zD,zE,zF]
 refine Zk.fin ?_
 refine Zk.rd (i:=5) rfl (fun K hK=>?_)
 go_simp
 refine (HIB.out _).mono ?_
 rintro d w2 ⟨rfl,hb2⟩
 have hS:=qA7 hHeld hb2
 refine hK.out _ _ hS (fun hHeld=>?_)
 clear hK K
 try simp only [Act.put,zA,zB,zC,zD,zE,zF]
 refine Zk.go [6] ?_
 refine Zk.st (v:=?_) rfl ?_ ?_
 rotate_left 1
 ·intro w hSw;(try dsimp only at hSw);go_simp;try (with_reducible rfl)
 try simp only [Act.put,zA,zB,zC,zD,zE,zF]
 refine Zk.fin ?_
 refine wpAnyH_done (by kernel_rfl) ?_ _
 have W2b:=qD4 (W1b.out.below hS.2)
 clear hHeld hS W1b x0 x1 x2 x3 y1 hb2 HIB hxl hgl1
 have x2:=W2b.out.bx 2 _ rfl
 have hxl:w.heap.size < w2.heap.size:=Nat.lt_of_succ_lt W2b.out.lt
 have u0:=W2b.out.rs.1 0 _ rfl
 have u1:=W2b.out.rs.1 1 _ rfl
 have u2:=W2b.out.rs.1 2 _ rfl
 have f0:=W2b.out.rs.2 0
 have f1:=W2b.out.rs.2 1
 have f2:=W2b.out.rs.2 2
 have hul:=W2b.out.lt
 go_wp2_with fail
 refine bodyPost_ret (v:=.tuple #[.agg #[.slice none 0 0,.slice none 0 0,.slice none 0 0],.int .i64 2]) (by simp [results,Tryz.results49,go_sem,u0,u1,u2,hul]) rfl ?_
 exact ⟨((W2b.out.bl.setCell (Nat.le_succ _) _).setCell (Nat.le_succ _) _).setCell (Nat.le_succ _) _,fun _=>rfl,fun q=>absurd q (by first | assumption | decide)⟩
theorem QZ4 (E:qH4) (r:qG5) (a:Option Addr) (m cap:Nat) (cs:List qA1) (w:World) (hr:qD8 w r) (hle:qK5 1048576 r) (hc:qA5 w a m cs) (hcl:qF1 1048576 cs) (hm:m≤1048576) (hEr:qN8 1 w) (hH:qD7 w) (hk:qB9 cs=0) (hEC:qN9 E cs) (hbd:qH7 (f0C cs) r=true) (h40:r.sn≤40) (o:Option (List LkI)) (ho:qF4 E r.ss r.sn=o) (hno:o=none) :
  Calls Tryz.prog 49 #[.agg #[.int .i64 r.i,.int .i64 r.u,.slice r.sa r.sn r.sc,.slice r.la r.ln r.lc],.slice a m cap] w fun d w'=>RebR r a m cap 10 w d w':=by
 have hsn:=hle.said
 have hln:=hle.locks
 have hsn':(r.sn:Int)≤1048576:=by omega
 have HCF:Hid (∀ W:World,Below w.heap.size w W→Calls Tryz.prog 80 #[.slice a m cap] W fun e w'=>e = .returned (.int .i64 0)∧Below W.heap.size W w'):=fun W hb=>by rw [← hk];exact qJ3 a m cap cs W hm hcl (hc.below hb)
 obtain ⟨V,hV⟩:∃ V,V=(w.alloc (.cells #[.int .i64 r.i,.int .i64 r.u,.slice r.sa r.sn r.sc,.slice r.la r.ln r.lc] 36)).alloc (.cells #[.slice none 0 0,.slice none 0 0,.slice none 0 0] 91):=⟨_,rfl⟩
 have W0:Hid (RW w r V):=by show RW w r V;rw [hV];exact RW.new w r
 obtain ⟨hm1,hm8,hok⟩:=qX7 hk
 have hml:cs.length=m:=hc.len
 have hm0:0 < m:=by omega
 have hm0':(0:Int) < (m:Int):=by omega
 obtain ⟨g,off,c0,rfl,hc0,hat,_⟩:=hc.at hm0
 obtain ⟨v0,v1,v2,v3,v4⟩:=hat
 simp only [Nat.zero_mul,Nat.add_zero] at v0 v1 v2 v3 v4
 have hgl:=zL w _ v0
 have hf0:f0C cs=c0.f:=by unfold f0C;rw [hc0];rfl
 have hff:1≤c0.f∧c0.f≤2:=f_of (hok 0 c0 hc0).1
 have HIB:Hid (∀ W:World,Calls Tryz.prog 81 #[.agg #[.int .i64 r.i,.int .i64 r.u,.slice r.sa r.sn r.sc,.slice r.la r.ln r.lc],.int .i64 c0.f] W fun e w'=>e = .returned (.bool true)∧Below W.heap.size W w'):=fun W=>by rw [← hbd,hf0];exact qS2 c0.f hff r W hsn
 have V1:Hid (∀ W:World,Below w.heap.size w W→W.cell? ⟨g,off+1,none⟩=some (.int .i64 c0.f)):=fun W hb=>(hb.cell (p:=⟨g,off+1,none⟩) hgl).trans v1
 have h40':(r.sn:Int)≤40:=by omega
 have HSP:Hid (∀ W:World,Below w.heap.size w W→Calls Tryz.prog 82 #[.slice (some ⟨g,off,none⟩) m cap,.slice r.sa r.sn r.sc] W fun d w'=>SpkR (some ⟨g,off,none⟩) m cap r.ss r.sn o W d w'):=fun W hb=>by
  rw [← ho]
  exact QC1 E _ m cap cs r.sa r.sn r.sc r.ss W hEC (fun W' hb'=>⟨hc.below (hb.trans (hb'.mono hb.size)),hEr.below (hb.trans (hb'.mono hb.size)),hH.below (hb.trans (hb'.mono hb.size))⟩) hm0 (by omega) (hr.said.below hb) hsn
 have HLR:Hid (∀ W:World,Below w.heap.size w W→qJ9 W r.la r.ln r.ls):=fun W hb=>hr.locks.below hb
 have HLN:Hid (r.ls.length=r.ln):=hr.locks.1
 clear ho hEC
 clear hok v0 v1 v2 v3 v4 hc0 hf0 hff hbd hml
 clear hr hc hcl hEr hH hk hle
 go_enter Tryz.func49,Tryz.ntmps49
 go_upto_region 1 with fail
 rw [← hV]
 clear hV
 go_wp2_with fail
 refine (HCF.out _ W0.out.bl).mono ?_
 rintro d w1 ⟨rfl,hb1⟩
 have W1b:=qD4 (W0.out.below hb1)
 clear hb1 W0 HCF
 have x0:=W1b.out.bx 0 _ rfl
 have x1:=W1b.out.bx 1 _ rfl
 have x2:=W1b.out.bx 2 _ rfl
 have x3:=W1b.out.bx 3 _ rfl
 have y1:=V1.out _ W1b.out.bl
 have hxl:w.heap.size < w1.heap.size:=Nat.lt_of_succ_lt W1b.out.lt
 have hgl1:g < w1.heap.size:=Nat.lt_of_lt_of_le hgl W1b.out.bl.size
 go_upto_region 4 with fail
 refine wp_region_held_drew (S:=fun w'=>(∀ b o,b < w1.heap.size→w'.cell? ⟨b,o,none⟩=w1.cell? ⟨b,o,none⟩)∧Below w1.heap.size w1 w') (by kernel_rfl) (qB6 _) (fun hHeld=>?_)
 refine Zk.go [0,1,2,3,4] ?_
 iterate 5
  refine Zk.st (v:=?_) rfl ?_ ?_
  rotate_left 1
  ·intro w hSw;(try dsimp only at hSw);go_simp;try (with_reducible rfl)
  try simp only [Act.put,zA,zB,zC,zD,zE,zF]
 refine Zk.fin ?_
 refine Zk.rd (i:=5) rfl (fun K hK=>?_)
 go_simp
 refine (HIB.out _).mono ?_
 rintro d w2 ⟨rfl,hb2⟩
 have hS:=qA7 hHeld hb2
 refine hK.out _ _ hS (fun hHeld=>?_)
 clear hK K
 try simp only [Act.put,zA,zB,zC,zD,zE,zF]
 refine Zk.go [6] ?_
 refine Zk.st (v:=?_) rfl ?_ ?_
 rotate_left 1
 ·intro w hSw;(try dsimp only at hSw);go_simp;try (with_reducible rfl)
 try simp only [Act.put,zA,zB,zC,zD,zE,zF]
 refine Zk.fin ?_
 refine wpAnyH_done (by kernel_rfl) ?_ _
 have W2b:=qD4 (W1b.out.below hS.2)
 clear hHeld hS W1b x0 x1 x2 x3 y1 hb2 HIB hxl hgl1
 have x2:=W2b.out.bx 2 _ rfl
 have hxl:w.heap.size < w2.heap.size:=Nat.lt_of_succ_lt W2b.out.lt
 go_wp2_with fail
 refine (HSP.out _ W2b.out.bl).mono ?_
 rintro d w3 ⟨hb3,hs1,hs2⟩
 have W3b:=qD4 (W2b.out.below hb3)
 clear x2 hxl
 obtain ⟨qa,qn,qc,ra,rn,rc,rfl⟩:=hs2 hno
 have W4b:=qD4 (W3b.out.below ((Below.refl _ _).alloc (Nat.le_refl _) (.cells #[.slice (some ⟨g,off,none⟩) m cap,.slice qa qn qc,.slice ra rn rc] 91)))
 clear hs1 hs2 hb3 W3b W2b
 have u0:=W4b.out.rs.1 0 _ rfl
 have u1:=W4b.out.rs.1 1 _ rfl
 have u2:=W4b.out.rs.1 2 _ rfl
 have f0:=W4b.out.rs.2 0
 have f1:=W4b.out.rs.2 1
 have f2:=W4b.out.rs.2 2
 have hul:=W4b.out.lt
 go_wp2_with fail
 refine bodyPost_ret (v:=.tuple #[.agg #[.slice none 0 0,.slice none 0 0,.slice none 0 0],.int .i64 10]) (by simp [results,Tryz.results49,go_sem,u0,u1,u2,hul]) rfl ?_
 exact ⟨((W4b.out.bl.setCell (Nat.le_succ _) _).setCell (Nat.le_succ _) _).setCell (Nat.le_succ _) _,fun _=>rfl,fun q=>absurd q (by first | assumption | decide)⟩
theorem QU4 (E:qH4) (r:qG5) (a:Option Addr) (m cap:Nat) (cs:List qA1) (w:World) (hr:qD8 w r) (hle:qK5 1048576 r) (hc:qA5 w a m cs) (hcl:qF1 1048576 cs) (hm:m≤1048576) (hEr:qN8 1 w) (hH:qD7 w) (hk:qB9 cs=0) (hEC:qN9 E cs) (hbd:qH7 (f0C cs) r=true) (h40:r.sn≤40) (o:Option (List LkI)) (ho:qF4 E r.ss r.sn=o) (ls:List LkI) (hso:o=some ls) (hll:ls.length≤1048576) (hde:decide (ls=r.ls)=false) :
  Calls Tryz.prog 49 #[.agg #[.int .i64 r.i,.int .i64 r.u,.slice r.sa r.sn r.sc,.slice r.la r.ln r.lc],.slice a m cap] w fun d w'=>RebR r a m cap 10 w d w':=by
 have hsn:=hle.said
 have hln:=hle.locks
 have hsn':(r.sn:Int)≤1048576:=by omega
 have HCF:Hid (∀ W:World,Below w.heap.size w W→Calls Tryz.prog 80 #[.slice a m cap] W fun e w'=>e = .returned (.int .i64 0)∧Below W.heap.size W w'):=fun W hb=>by rw [← hk];exact qJ3 a m cap cs W hm hcl (hc.below hb)
 obtain ⟨V,hV⟩:∃ V,V=(w.alloc (.cells #[.int .i64 r.i,.int .i64 r.u,.slice r.sa r.sn r.sc,.slice r.la r.ln r.lc] 36)).alloc (.cells #[.slice none 0 0,.slice none 0 0,.slice none 0 0] 91):=⟨_,rfl⟩
 have W0:Hid (RW w r V):=by show RW w r V;rw [hV];exact RW.new w r
 obtain ⟨hm1,hm8,hok⟩:=qX7 hk
 have hml:cs.length=m:=hc.len
 have hm0:0 < m:=by omega
 have hm0':(0:Int) < (m:Int):=by omega
 obtain ⟨g,off,c0,rfl,hc0,hat,_⟩:=hc.at hm0
 obtain ⟨v0,v1,v2,v3,v4⟩:=hat
 simp only [Nat.zero_mul,Nat.add_zero] at v0 v1 v2 v3 v4
 have hgl:=zL w _ v0
 have hf0:f0C cs=c0.f:=by unfold f0C;rw [hc0];rfl
 have hff:1≤c0.f∧c0.f≤2:=f_of (hok 0 c0 hc0).1
 have HIB:Hid (∀ W:World,Calls Tryz.prog 81 #[.agg #[.int .i64 r.i,.int .i64 r.u,.slice r.sa r.sn r.sc,.slice r.la r.ln r.lc],.int .i64 c0.f] W fun e w'=>e = .returned (.bool true)∧Below W.heap.size W w'):=fun W=>by rw [← hbd,hf0];exact qS2 c0.f hff r W hsn
 have V1:Hid (∀ W:World,Below w.heap.size w W→W.cell? ⟨g,off+1,none⟩=some (.int .i64 c0.f)):=fun W hb=>(hb.cell (p:=⟨g,off+1,none⟩) hgl).trans v1
 have h40':(r.sn:Int)≤40:=by omega
 have HSP:Hid (∀ W:World,Below w.heap.size w W→Calls Tryz.prog 82 #[.slice (some ⟨g,off,none⟩) m cap,.slice r.sa r.sn r.sc] W fun d w'=>SpkR (some ⟨g,off,none⟩) m cap r.ss r.sn o W d w'):=fun W hb=>by
  rw [← ho]
  exact QC1 E _ m cap cs r.sa r.sn r.sc r.ss W hEC (fun W' hb'=>⟨hc.below (hb.trans (hb'.mono hb.size)),hEr.below (hb.trans (hb'.mono hb.size)),hH.below (hb.trans (hb'.mono hb.size))⟩) hm0 (by omega) (hr.said.below hb) hsn
 have HLR:Hid (∀ W:World,Below w.heap.size w W→qJ9 W r.la r.ln r.ls):=fun W hb=>hr.locks.below hb
 have HLN:Hid (r.ls.length=r.ln):=hr.locks.1
 have HEQ:Hid (∀ (W:World) (la:Option Addr) (lc:Nat),qJ9 W la ls.length ls→Below w.heap.size w W→Calls Tryz.prog 83 #[.slice la ls.length lc,.slice r.la r.ln r.lc] W fun e w'=>e = .returned (.bool false)∧Below W.heap.size W w'):=fun W la lc hl hb=>by
  have q:=QK3 la r.la ls.length r.ln lc r.lc ls r.ls W hll hln hl (HLR.out _ hb)
  rw [hde] at q
  exact q
 clear ho hEC hde
 clear hok v0 v1 v2 v3 v4 hc0 hf0 hff hbd hml
 clear hr hc hcl hEr hH hk hle
 go_enter Tryz.func49,Tryz.ntmps49
 go_upto_region 1 with fail
 rw [← hV]
 clear hV
 go_wp2_with fail
 refine (HCF.out _ W0.out.bl).mono ?_
 rintro d w1 ⟨rfl,hb1⟩
 have W1b:=qD4 (W0.out.below hb1)
 clear hb1 W0 HCF
 have x0:=W1b.out.bx 0 _ rfl
 have x1:=W1b.out.bx 1 _ rfl
 have x2:=W1b.out.bx 2 _ rfl
 have x3:=W1b.out.bx 3 _ rfl
 have y1:=V1.out _ W1b.out.bl
 have hxl:w.heap.size < w1.heap.size:=Nat.lt_of_succ_lt W1b.out.lt
 have hgl1:g < w1.heap.size:=Nat.lt_of_lt_of_le hgl W1b.out.bl.size
 go_upto_region 4 with fail
 refine wp_region_held_drew (S:=fun w'=>(∀ b o,b < w1.heap.size→w'.cell? ⟨b,o,none⟩=w1.cell? ⟨b,o,none⟩)∧Below w1.heap.size w1 w') (by kernel_rfl) (qB6 _) (fun hHeld=>?_)
 refine Zk.go [0,1,2,3,4] ?_
 iterate 5
  refine Zk.st (v:=?_) rfl ?_ ?_
  rotate_left 1
  ·intro w hSw;(try dsimp only at hSw);go_simp;try (with_reducible rfl)
  try simp only [Act.put,zA,zB,zC,zD,zE,zF]
 refine Zk.fin ?_
 refine Zk.rd (i:=5) rfl (fun K hK=>?_)
 go_simp
 refine (HIB.out _).mono ?_
 rintro d w2 ⟨rfl,hb2⟩
 have hS:=qA7 hHeld hb2
 refine hK.out _ _ hS (fun hHeld=>?_)
 clear hK K
 try simp only [Act.put,zA,zB,zC,zD,zE,zF]
 refine Zk.go [6] ?_
 refine Zk.st (v:=?_) rfl ?_ ?_
 rotate_left 1
 ·intro w hSw;(try dsimp only at hSw);go_simp;try (with_reducible rfl)
 try simp only [Act.put,zA,zB,zC,zD,zE,zF]
 refine Zk.fin ?_
 refine wpAnyH_done (by kernel_rfl) ?_ _
 have W2b:=qD4 (W1b.out.below hS.2)
 clear hHeld hS W1b x0 x1 x2 x3 y1 hb2 HIB hxl hgl1
 have x2:=W2b.out.bx 2 _ rfl
 have hxl:w.heap.size < w2.heap.size:=Nat.lt_of_succ_lt W2b.out.lt
 go_wp2_with fail
 refine (HSP.out _ W2b.out.bl).mono ?_
 rintro d w3 ⟨hb3,hs1,hs2⟩
 have W3b:=qD4 (W2b.out.below hb3)
 clear x2 hxl
 obtain ⟨sa,sc,la,lc,rfl,ho1,ho2⟩:=hs1 ls hso
 have O1:=qD4 (ho1.below (w':=w3.alloc (.cells #[.slice (some ⟨g,off,none⟩) m cap,.slice sa r.sn sc,.slice la ls.length lc] 91)) (zN))
 have O2:=qD4 (ho2.below (w':=w3.alloc (.cells #[.slice (some ⟨g,off,none⟩) m cap,.slice sa r.sn sc,.slice la ls.length lc] 91)) (zN))
 have W4b:=qD4 (W3b.out.below ((Below.refl _ _).alloc (Nat.le_refl _) (.cells #[.slice (some ⟨g,off,none⟩) m cap,.slice sa r.sn sc,.slice la ls.length lc] 91)))
 have B2s:=W2b.out.bl.size
 have B2l:=W2b.out.lt
 obtain ⟨Y,hY⟩:∃ Y,Y=w3.alloc (.cells #[.slice (some ⟨g,off,none⟩) m cap,.slice sa r.sn sc,.slice la ls.length lc] 91):=⟨_,rfl⟩
 have XY:Hid (qE3 w3.heap.size [.slice (some ⟨g,off,none⟩) m cap,.slice sa r.sn sc,.slice la ls.length lc] Y∧w3.heap.size < Y.heap.size):=by rw [hY];exact ⟨(qD6 w3 _ _).out,by simp⟩
 rw [← hY] at O1 O2 W4b
 clear hs1 hs2 hb3 W3b W2b ho1 ho2
 go_upto_region 9 with fail
 rw [← hY]
 clear hY
 generalize w3.heap.size=q3 at XY ⊢
 have s0:=XY.out.1 0 _ rfl
 have s1:=XY.out.1 1 _ rfl
 have s2:=XY.out.1 2 _ rfl
 have hsl:=XY.out.2
 have x3:=W4b.out.bx 3 _ rfl
 have hxl:w.heap.size < Y.heap.size:=Nat.lt_of_succ_lt W4b.out.lt
 go_wp2_with fail
 refine (HEQ.out _ _ lc (LkV.isIn rfl O2.out.view) W4b.out.bl).mono ?_
 rintro d w5 ⟨rfl,hb5⟩
 have W5b:=qD4 (W4b.out.below hb5)
 clear s0 s1 s2 hsl x3 hxl
 have u0:=W5b.out.rs.1 0 _ rfl
 have u1:=W5b.out.rs.1 1 _ rfl
 have u2:=W5b.out.rs.1 2 _ rfl
 have f0:=W5b.out.rs.2 0
 have f1:=W5b.out.rs.2 1
 have f2:=W5b.out.rs.2 2
 have hul:=W5b.out.lt
 go_wp2_with fail
 refine bodyPost_ret (v:=.tuple #[.agg #[.slice none 0 0,.slice none 0 0,.slice none 0 0],.int .i64 10]) (by simp [results,Tryz.results49,go_sem,u0,u1,u2,hul]) rfl ?_
 exact ⟨((W5b.out.bl.setCell (Nat.le_succ _) _).setCell (Nat.le_succ _) _).setCell (Nat.le_succ _) _,fun _=>rfl,fun q=>absurd q (by first | assumption | decide)⟩
theorem rebuild_ok (E:qH4) (r:qG5) (a:Option Addr) (m cap:Nat) (cs:List qA1) (w:World) (hr:qD8 w r) (hle:qK5 1048576 r) (hc:qA5 w a m cs) (hcl:qF1 1048576 cs) (hm:m≤1048576) (hEr:qN8 1 w) (hH:qD7 w) (hk:qB9 cs=0) (hEC:qN9 E cs) (hbd:qH7 (f0C cs) r=true) (h40:r.sn≤40) (o:Option (List LkI)) (ho:qF4 E r.ss r.sn=o) (ls:List LkI) (hso:o=some ls) (hll:ls.length≤1048576) (hls:ls=r.ls) (hde:decide (ls=r.ls)=true) :
  Calls Tryz.prog 49 #[.agg #[.int .i64 r.i,.int .i64 r.u,.slice r.sa r.sn r.sc,.slice r.la r.ln r.lc],.slice a m cap] w fun d w'=>RebR r a m cap 0 w d w':=by
 have hsn:=hle.said
 have hln:=hle.locks
 have hsn':(r.sn:Int)≤1048576:=by omega
 have HCF:Hid (∀ W:World,Below w.heap.size w W→Calls Tryz.prog 80 #[.slice a m cap] W fun e w'=>e = .returned (.int .i64 0)∧Below W.heap.size W w'):=fun W hb=>by rw [← hk];exact qJ3 a m cap cs W hm hcl (hc.below hb)
 obtain ⟨V,hV⟩:∃ V,V=(w.alloc (.cells #[.int .i64 r.i,.int .i64 r.u,.slice r.sa r.sn r.sc,.slice r.la r.ln r.lc] 36)).alloc (.cells #[.slice none 0 0,.slice none 0 0,.slice none 0 0] 91):=⟨_,rfl⟩
 have W0:Hid (RW w r V):=by show RW w r V;rw [hV];exact RW.new w r
 obtain ⟨hm1,hm8,hok⟩:=qX7 hk
 have hml:cs.length=m:=hc.len
 have hm0:0 < m:=by omega
 have hm0':(0:Int) < (m:Int):=by omega
 obtain ⟨g,off,c0,rfl,hc0,hat,_⟩:=hc.at hm0
 obtain ⟨v0,v1,v2,v3,v4⟩:=hat
 simp only [Nat.zero_mul,Nat.add_zero] at v0 v1 v2 v3 v4
 have hgl:=zL w _ v0
 have hf0:f0C cs=c0.f:=by unfold f0C;rw [hc0];rfl
 have hff:1≤c0.f∧c0.f≤2:=f_of (hok 0 c0 hc0).1
 have HIB:Hid (∀ W:World,Calls Tryz.prog 81 #[.agg #[.int .i64 r.i,.int .i64 r.u,.slice r.sa r.sn r.sc,.slice r.la r.ln r.lc],.int .i64 c0.f] W fun e w'=>e = .returned (.bool true)∧Below W.heap.size W w'):=fun W=>by rw [← hbd,hf0];exact qS2 c0.f hff r W hsn
 have V1:Hid (∀ W:World,Below w.heap.size w W→W.cell? ⟨g,off+1,none⟩=some (.int .i64 c0.f)):=fun W hb=>(hb.cell (p:=⟨g,off+1,none⟩) hgl).trans v1
 have h40':(r.sn:Int)≤40:=by omega
 have HSP:Hid (∀ W:World,Below w.heap.size w W→Calls Tryz.prog 82 #[.slice (some ⟨g,off,none⟩) m cap,.slice r.sa r.sn r.sc] W fun d w'=>SpkR (some ⟨g,off,none⟩) m cap r.ss r.sn o W d w'):=fun W hb=>by
  rw [← ho]
  exact QC1 E _ m cap cs r.sa r.sn r.sc r.ss W hEC (fun W' hb'=>⟨hc.below (hb.trans (hb'.mono hb.size)),hEr.below (hb.trans (hb'.mono hb.size)),hH.below (hb.trans (hb'.mono hb.size))⟩) hm0 (by omega) (hr.said.below hb) hsn
 have HLR:Hid (∀ W:World,Below w.heap.size w W→qJ9 W r.la r.ln r.ls):=fun W hb=>hr.locks.below hb
 have HLN:Hid (r.ls.length=r.ln):=hr.locks.1
 have HEQ:Hid (∀ (W:World) (la:Option Addr) (lc:Nat),qJ9 W la ls.length ls→Below w.heap.size w W→Calls Tryz.prog 83 #[.slice la ls.length lc,.slice r.la r.ln r.lc] W fun e w'=>e = .returned (.bool true)∧Below W.heap.size W w'):=fun W la lc hl hb=>by
  have q:=QK3 la r.la ls.length r.ln lc r.lc ls r.ls W hll hln hl (HLR.out _ hb)
  rw [hde] at q
  exact q
 have HLS:Hid (ls=r.ls):=hls
 clear ho hEC hde hls
 clear hok v0 v1 v2 v3 v4 hc0 hf0 hff hbd hml
 clear hr hc hcl hEr hH hk hle
 go_enter Tryz.func49,Tryz.ntmps49
 go_upto_region 1 with fail
 rw [← hV]
 clear hV
 go_wp2_with fail
 refine (HCF.out _ W0.out.bl).mono ?_
 rintro d w1 ⟨rfl,hb1⟩
 have W1b:=qD4 (W0.out.below hb1)
 clear hb1 W0 HCF
 have x0:=W1b.out.bx 0 _ rfl
 have x1:=W1b.out.bx 1 _ rfl
 have x2:=W1b.out.bx 2 _ rfl
 have x3:=W1b.out.bx 3 _ rfl
 have y1:=V1.out _ W1b.out.bl
 have hxl:w.heap.size < w1.heap.size:=Nat.lt_of_succ_lt W1b.out.lt
 have hgl1:g < w1.heap.size:=Nat.lt_of_lt_of_le hgl W1b.out.bl.size
 go_upto_region 4 with fail
 refine wp_region_held_drew (S:=fun w'=>(∀ b o,b < w1.heap.size→w'.cell? ⟨b,o,none⟩=w1.cell? ⟨b,o,none⟩)∧Below w1.heap.size w1 w') (by kernel_rfl) (qB6 _) (fun hHeld=>?_)
 refine Zk.go [0,1,2,3,4] ?_
 iterate 5
  refine Zk.st (v:=?_) rfl ?_ ?_
  rotate_left 1
  ·intro w hSw;(try dsimp only at hSw);go_simp;try (with_reducible rfl)
  try simp only [Act.put,zA,zB,zC,zD,zE,zF]
 refine Zk.fin ?_
 refine Zk.rd (i:=5) rfl (fun K hK=>?_)
 go_simp
 refine (HIB.out _).mono ?_
 rintro d w2 ⟨rfl,hb2⟩
 have hS:=qA7 hHeld hb2
 refine hK.out _ _ hS (fun hHeld=>?_)
 clear hK K
 try simp only [Act.put,zA,zB,zC,zD,zE,zF]
 refine Zk.go [6] ?_
 refine Zk.st (v:=?_) rfl ?_ ?_
 rotate_left 1
 ·intro w hSw;(try dsimp only at hSw);go_simp;try (with_reducible rfl)
 try simp only [Act.put,zA,zB,zC,zD,zE,zF]
 refine Zk.fin ?_
 refine wpAnyH_done (by kernel_rfl) ?_ _
 have W2b:=qD4 (W1b.out.below hS.2)
 clear hHeld hS W1b x0 x1 x2 x3 y1 hb2 HIB hxl hgl1
 have x2:=W2b.out.bx 2 _ rfl
 have hxl:w.heap.size < w2.heap.size:=Nat.lt_of_succ_lt W2b.out.lt
 go_wp2_with fail
 refine (HSP.out _ W2b.out.bl).mono ?_
 rintro d w3 ⟨hb3,hs1,hs2⟩
 have W3b:=qD4 (W2b.out.below hb3)
 clear x2 hxl
 obtain ⟨sa,sc,la,lc,rfl,ho1,ho2⟩:=hs1 ls hso
 have O1:=qD4 (ho1.below (w':=w3.alloc (.cells #[.slice (some ⟨g,off,none⟩) m cap,.slice sa r.sn sc,.slice la ls.length lc] 91)) (zN))
 have O2:=qD4 (ho2.below (w':=w3.alloc (.cells #[.slice (some ⟨g,off,none⟩) m cap,.slice sa r.sn sc,.slice la ls.length lc] 91)) (zN))
 have W4b:=qD4 (W3b.out.below ((Below.refl _ _).alloc (Nat.le_refl _) (.cells #[.slice (some ⟨g,off,none⟩) m cap,.slice sa r.sn sc,.slice la ls.length lc] 91)))
 have B2s:=W2b.out.bl.size
 have B2l:=W2b.out.lt
 obtain ⟨Y,hY⟩:∃ Y,Y=w3.alloc (.cells #[.slice (some ⟨g,off,none⟩) m cap,.slice sa r.sn sc,.slice la ls.length lc] 91):=⟨_,rfl⟩
 have XY:Hid (qE3 w3.heap.size [.slice (some ⟨g,off,none⟩) m cap,.slice sa r.sn sc,.slice la ls.length lc] Y∧w3.heap.size < Y.heap.size):=by rw [hY];exact ⟨(qD6 w3 _ _).out,by simp⟩
 rw [← hY] at O1 O2 W4b
 clear hs1 hs2 hb3 W3b W2b ho1 ho2
 go_upto_region 9 with fail
 rw [← hY]
 clear hY
 generalize w3.heap.size=q3 at XY ⊢
 have s0:=XY.out.1 0 _ rfl
 have s1:=XY.out.1 1 _ rfl
 have s2:=XY.out.1 2 _ rfl
 have hsl:=XY.out.2
 have x3:=W4b.out.bx 3 _ rfl
 have hxl:w.heap.size < Y.heap.size:=Nat.lt_of_succ_lt W4b.out.lt
 go_wp2_with fail
 refine (HEQ.out _ _ lc (LkV.isIn rfl O2.out.view) W4b.out.bl).mono ?_
 rintro d w5 ⟨rfl,hb5⟩
 have W5b:=qD4 (W4b.out.below hb5)
 have X5:qE3 q3 [.slice (some ⟨g,off,none⟩) m cap,.slice sa r.sn sc,.slice la ls.length lc] w5:=((qE3.hold XY.out.1 XY.out.2).below hb5).out
 have O5:=qD4 (O1.out.below hb5)
 have P5:=qD4 (O2.out.below hb5)
 have hq5:q3 < w5.heap.size:=Nat.lt_of_lt_of_le XY.out.2 hb5.size
 clear s0 s1 s2 hsl x3 hxl
 have s0:=X5 0 _ rfl
 have s1:=X5 1 _ rfl
 have s2:=X5 2 _ rfl
 have u0:=W5b.out.rs.1 0 _ rfl
 have u1:=W5b.out.rs.1 1 _ rfl
 have u2:=W5b.out.rs.1 2 _ rfl
 have f0:=W5b.out.rs.2 0
 have f1:=W5b.out.rs.2 1
 have f2:=W5b.out.rs.2 2
 have hul:=W5b.out.lt
 clear X5
 go_wp2_with fail
 refine bodyPost_ret (v:=.tuple #[.agg #[.slice (some ⟨g,off,none⟩) m cap,.slice sa r.sn sc,.slice la ls.length lc],.int .i64 0]) (by simp [results,Tryz.results49,go_sem,u0,u1,u2,hul]) rfl ?_
 refine ⟨((W5b.out.bl.setCell (Nat.le_succ _) _).setCell (Nat.le_succ _) _).setCell (Nat.le_succ _) _,fun q=>absurd rfl q,fun _=>?_⟩
 have hls:=HLS.out
 subst hls
 rw [HLN.out]
 refine ⟨sa,sc,la,lc,rfl,qA4 (qC8 O5.out (by omega)) (fun g' e=>?_),qA4 (?_:qB0 w5 w.heap.size (.slice la r.ln lc) r.ls) (fun g' e=>?_)⟩
 ·obtain ⟨cur,hcc,hgg⟩:=qD5 O5.out e
  have h0:=W5b.out.lt
  rw [Below.heap_setCell _ _ _ _ (by show g'≠w.heap.size+1;omega),Below.heap_setCell _ _ _ _ (by show g'≠w.heap.size+1;omega),Below.heap_setCell _ _ _ _ (by show g'≠w.heap.size+1;omega)]
 ·have:=qA9 P5.out (show w.heap.size≤_ by omega)
  rw [HLN.out] at this
  exact this
 ·have P6:=P5.out
  rw [HLN.out] at P6
  obtain ⟨cur,hcc,hgg⟩:=qD1 P6 e
  rw [Below.heap_setCell _ _ _ _ (by show g'≠w.heap.size+1;omega),Below.heap_setCell _ _ _ _ (by show g'≠w.heap.size+1;omega),Below.heap_setCell _ _ _ _ (by show g'≠w.heap.size+1;omega)]

theorem play_len {E:qH4} {xs:List StI}:∀ (k:Nat) (ls:List LkI),qF4 E xs k=some ls→k≤xs.length→ls.length≤1048576:=fun k ls h hk=>by
 have:=(QU6 k ls hk h).lk
 exact Nat.le_trans (QG1 this).1 (by omega)
theorem rebuild_c (E:qH4) (r:qG5) (a:Option Addr) (m cap:Nat) (cs:List qA1) (w:World) (hr:qD8 w r) (hle:qK5 1048576 r) (hc:qA5 w a m cs) (hcl:qF1 1048576 cs) (hm:m≤1048576) (hEr:qN8 1 w) (hH:qD7 w) (hEC:qB9 cs=0→qN9 E cs) :
  Calls Tryz.prog 49 #[.agg #[.int .i64 r.i,.int .i64 r.u,.slice r.sa r.sn r.sc,.slice r.la r.ln r.lc],.slice a m cap] w fun d w'=>RebR r a m cap (qK9 E cs r) w d w':=by
 unfold qK9
 by_cases hk:qB9 cs=0
 ·rw [if_pos hk]
  cases hb:qH7 (f0C cs) r
  ·rw [if_neg (by decide)]
   exact QP4 E r a m cap cs w hr hle hc hcl hm hEr hH hk hb
  ·rw [if_pos rfl]
   by_cases h40:40 < r.sn
   ·rw [if_pos h40]
    exact QZ5 E r a m cap cs w hr hle hc hcl hm hEr hH hk hb h40
   ·rw [if_neg h40]
    cases ho:qF4 E r.ss r.sn with
    | none =>
     rw [if_neg (by intro q;cases q)]
     exact QZ4 E r a m cap cs w hr hle hc hcl hm hEr hH hk (hEC hk) hb (by omega) _ ho rfl
    | some ls =>
     have hll:ls.length≤1048576:=play_len r.sn ls ho (by rw [hr.said.1];exact Nat.le_refl _)
     by_cases e:ls=r.ls
     ·rw [if_pos (by rw [e])]
      exact rebuild_ok E r a m cap cs w hr hle hc hcl hm hEr hH hk (hEC hk) hb (by omega) _ ho ls rfl hll e (decide_eq_true e)
     ·rw [if_neg (fun q=>e (Option.some.inj q))]
      exact QU4 E r a m cap cs w hr hle hc hcl hm hEr hH hk (hEC hk) hb (by omega) _ ho ls rfl hll (decide_eq_false e)
 ·rw [if_neg hk]
  exact QZ6 E r a m cap cs w hr hle hc hcl hm hEr hH _ rfl hk
theorem QE9 (E:qH4) (r:qG5) (a:Option Addr) (m cap:Nat) (cs:List qA1) (w:World) (hr:qD8 w r) (hle:qK5 1048576 r) (hc:qA5 w a m cs) (hcl:qF1 1048576 cs) (hm:m≤1048576) (hEr:qN8 1 w) (hH:qD7 w) (hEC:qB9 cs=0→qN9 E cs) :
  Calls Tryz.prog 34 #[.agg #[.int .i64 r.i,.int .i64 r.u,.slice r.sa r.sn r.sc,.slice r.la r.ln r.lc],.slice a m cap] w fun d w'=>d = .returned (.int .i64 (qK9 E cs r))∧Below w.heap.size w w':=by
 obtain ⟨V,hV⟩:∃ V,V=w.alloc (.cells #[.int .i64 r.i,.int .i64 r.u,.slice r.sa r.sn r.sc,.slice r.la r.ln r.lc] 36):=⟨_,rfl⟩
 have BV:Hid (Below w.heap.size w V):=by show Below _ _ _;rw [hV];exact zN
 have XV:qE3 w.heap.size [.int .i64 r.i,.int .i64 r.u,.slice r.sa r.sn r.sc,.slice r.la r.ln r.lc] V:=by rw [hV];exact (qD6 w _ _).out
 have hVl:w.heap.size < V.heap.size:=by rw [hV];simp
 obtain ⟨k,hk⟩:∃ k,qK9 E cs r=k:=⟨_,rfl⟩
 have HRB:Hid (Calls Tryz.prog 49 #[.agg #[.int .i64 r.i,.int .i64 r.u,.slice r.sa r.sn r.sc,.slice r.la r.ln r.lc],.slice a m cap] V fun d w'=>RebR r a m cap k V d w'):=by
  show Calls _ _ _ _ _
  rw [← hk]
  exact rebuild_c E r a m cap cs V (hr.below BV.out) hle (hc.below BV.out) hcl hm (hEr.below BV.out) (hH.below BV.out) hEC
 rw [hk]
 have v0:=XV 0 _ rfl
 have v1:=XV 1 _ rfl
 have v2:=XV 2 _ rfl
 have v3:=XV 3 _ rfl
 clear XV hk hr hle hc hcl hEr hH hEC
 go_enter Tryz.func34,Tryz.ntmps34
 go_upto_region 1 with fail
 rw [← hV]
 clear hV
 go_wp2_with fail
 refine HRB.out.mono ?_
 rintro d w1 ⟨hb1,h1,h2⟩
 have B1:Hid (Below w.heap.size w w1):=BV.out.trans (hb1.mono BV.out.size)
 clear hb1 v0 v1 v2 v3
 by_cases hk:k=0
 ·obtain ⟨sa,sc,la,lc,rfl,_,_⟩:=h2 hk
  subst hk
  clear h1 h2
  go_wp2_with fail
  go_ret
  exact ⟨rfl,B1.out.alloc B1.out.size _⟩
 ·obtain rfl:=h1 hk
  clear h1 h2
  go_wp2_with fail
  go_ret
  exact ⟨rfl,B1.out.alloc B1.out.size _⟩

end Go.Proofs.YtdppdbihhlipeaaGreatDoor
