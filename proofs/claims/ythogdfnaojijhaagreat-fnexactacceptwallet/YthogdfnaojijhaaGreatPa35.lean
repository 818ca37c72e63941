/- Contracts. -/
import Derived.Test.YthogdfnaojijhaaGreatPa34
namespace Go.Proofs.YthogdfnaojijhaaGreat
set_option maxRecDepth 100000
set_option maxHeartbeats 8000000
open Go.RowKit
set_option linter.unusedVariables false
set_option linter.unusedSimpArgs false

theorem out_set {w:World} {g:Nat} {x y:Value} {t:TypeId} (h:w.heap[g]? = some (.cells #[x,y] t (0,0))) (v:Value):(w.setCell ⟨g,1,none⟩ v).heap[g]? = some (.cells #[x,v] t (0,0)):=by
 obtain ⟨hlt,hk⟩:=Array.getElem?_eq_some_iff.1 h
 show (w.heap.modify g _)[g]? = _
 rw [Array.getElem?_eq_getElem (by rw [Array.size_modify];exact hlt),Array.getElem_modify_self,hk]
 simp
structure OutAt (w:World) (Ob L:Nat) (l:List Nat) (g c:Nat):Prop where
 bx:w.heap[Ob]? = some (.cells #[.int .i64 0,.slice (some ⟨g,0,none⟩) l.length c] 100 (0,0))
 ow:w.ownsRow L 2 1 (.slice (some ⟨g,0,none⟩) l.length c) l.length (l.map (fun p:Nat=>Value.int .i64 (p:Int)))
theorem OutAt.below {w w':World} {Ob L:Nat} {l:List Nat} {g c:Nat} (h:OutAt w Ob L l g c) (hb:Below w.heap.size w w'):OutAt w' Ob L l g c :=
 ⟨(hb.block Ob (Array.getElem?_eq_some_iff.1 h.bx).1).trans h.bx,qT4 h.ow (fun q e=>hb.block q (h.ow.lt q e).2)⟩
theorem QA9 {w:World} {b:Nat} {x y:Value} {t:TypeId} (h:w.heap[b]? = some (.cells #[x,y] t (0,0))):w.cell? ⟨b,0,none⟩=some x∧w.cell? ⟨b,1,none⟩=some y∧w.frozen? ⟨b,1,none⟩=false:=by
 refine ⟨?_,?_,?_⟩
 ·unfold World.cell?
  simp only
  rw [h]
  simp
 ·unfold World.cell?
  simp only
  rw [h]
  simp
 ·unfold World.frozen?
  simp only
  rw [h]
  simp
theorem qM9 (a:Option Addr) (n cap:Nat) (cs:List qA3) (b:Option Addr) (m cap':Nat) (zs:List ShI) (s:Option Addr) (N sc:Nat) (cr:List CrI) (w:World) (hn:n≤1048576) (hle:qH4 1048576 cs) (h:qB1 w a n cs) (hm:m≤1048576) (hcap:m≤cap') (hcm:cap'≤maxLen) (h':qD9 w b m zs) (hN:N≤1048576) (hs:qK3 w s N cr) (hl:∀ (k:Nat) c,cr[k]? = some c→c.gn≤1048576∧c.gn≤c.gc∧c.gc≤maxLen):qQ6 47 a n cap b m cap' s N sc (qC7 cs zs (chL cr)) (vcL cs zs (chL cr)) w:=by
 unfold qQ6
 obtain ⟨i0,hi,hz0,hz1,hz2⟩:=info_parts Tryz.infoI2
 obtain ⟨V,hV⟩:∃ V,V=w.alloc (.cells #[.int .i64 0,.slice none 0 0] 100):=⟨_,rfl⟩
 have BV:Below w.heap.size w V:=by rw [hV];exact zN
 have RB:Hid (qI7 w.heap.size [.int .i64 0,.slice none 0 0] V):=by rw [hV];exact qI5 w _ _
 have hVl:w.heap.size < V.heap.size:=by rw [hV];simp
 have HBV:=qH5 BV
 have HAS:=qH5 (l12Asked_c a n cap cs b m cap' zs V hn hle (h.below BV) hm hcap hcm (qD9.below h' BV))
 have HCL:Hid ((chL cr).length=N):=by show _=_;rw [qV8];exact hs.len
 obtain ⟨v,hv⟩:∃ v,qG0 cs zs=v:=⟨_,rfl⟩
 rw [hv] at HAS
 have hN':(N:Int)≤1048576:=by omega
 by_cases v0:v=0
 ·subst v0
  obtain ⟨hk1,hk2⟩:=ak_ok hv
  obtain ⟨hn1,hn8, -⟩:=qW5 hk1
  rw [h.len] at hn1 hn8
  obtain ⟨f,hf⟩:∃ f,fOf cs=f:=⟨_,rfl⟩
  by_cases h8:8 < N
  ·have HVC:Hid (qC7 cs zs (chL cr)=2):=by show _=_;unfold qC7;rw [if_pos hv,HCL.out,if_pos h8]
   have HVL:Hid (vcL cs zs (chL cr)=[]):=by show _=_;unfold vcL;rw [if_neg (by rw [HVC.out];omega)]
   rw [HVC.out,HVL.out]
   have h8b:decide ((N:Int) > 8)=true:=by simp;omega
   clear h h' hs hk1 hk2 hf hv BV hl
   go_enter Tryz.func47,Tryz.ntmps47
   go_upto_region 1 with fail
   rw [← hV]
   clear hV
   go_wp2_with fail
   refine HAS.out.mono ?_
   rintro e w1 ⟨rfl,hb1⟩
   have HB1:=qH5 hb1
   have X2:=qI7.below RB.out hVl HB1.out
   have r0:=X2.1 0 _ rfl
   have r1:=X2.1 1 _ rfl
   have f0:=X2.2 0
   have f1:=X2.2 1
   have hw2:w.heap.size < w1.heap.size:=by have:=HB1.out.size;omega
   clear X2 hb1
   go_wp2_with fail
   refine bodyPost_ret (v:=.agg #[.int .i64 2,.slice none 0 0]) (by simp [results,Tryz.results47,go_sem,r0,r1,hw2]) rfl ⟨none,0,rfl,World.ownsRow_nil _ _ _ _,?_⟩
   exact ((HBV.out.trans (HB1.out.mono HBV.out.size)).setCell (Nat.le_refl _) _).setCell (Nat.le_refl _) _
  ·have h8':N≤8:=by omega
   have h8b:decide ((N:Int) > 8)=false:=by simp;omega
   have HVC:Hid (qC7 cs zs (chL cr)=(chS cs zs f (chL cr) N).1):=by show _=_;unfold qC7;rw [if_pos hv,HCL.out,if_neg h8,hf]
   have HVL:Hid (vcL cs zs (chL cr)=if (chS cs zs f (chL cr) N).1=0 then (chS cs zs f (chL cr) N).2.map (fun p:Nat=>(p:Int)) else []):=by show _=_;unfold vcL;rw [HVC.out,HCL.out,hf]
   have HLN:Hid (cs.length=n):=h.len
   have HLC:Hid (cr.length=N):=hs.len
   have HC:=qH5 (h.below BV)
   have HS:=qH5 (qD9.below h' BV)
   have HT:=qH5 (hs.below BV)
   have HL:=qH5 hl
   have HAK:=qH5 hv
   have HFO:=qH5 hf
   clear h h' hs hk1 hk2 hf hv BV hl h8
   go_enter Tryz.func47,Tryz.ntmps47
   go_upto_region 1 with fail
   rw [← hV]
   clear hV
   go_wp2_with fail
   refine HAS.out.mono ?_
   rintro e w1 ⟨rfl,hb1⟩
   obtain ⟨V1,hV1⟩:∃ V1,V1=(w1.alloc (.cells #[.int .i64 0] 2)).alloc (.cells #[.int .i64 0,.slice (some ⟨w1.heap.size,0,none⟩) 1 1] 100):=⟨_,rfl⟩
   have B1:Below w1.heap.size w1 V1:=by rw [hV1];exact (zN).alloc (by simp) _
   have HOA:Hid (OutAt V1 (w1.heap.size+1) w1.heap.size [0] w1.heap.size 1):=by
    refine ⟨?_,?_⟩
    ·rw [hV1]
     have q:=World.alloc_heap_new (w1.alloc (.cells #[.int .i64 0] 2)) (.cells #[.int .i64 0,.slice (some ⟨w1.heap.size,0,none⟩) 1 1] 100)
     simp only [World.size_alloc] at q
     exact q
    ·have q:=World.ownsRow_lit (base:=w1.heap.size) (e:=2) (size:=1) w1 #[.int .i64 0] 1 (Nat.le_refl _) (by unfold maxLen;omega) rfl
     rw [hV1]
     exact q.alloc _
   have HB1:Hid (Below V.heap.size V w1):=hb1
   have HBL:Hid (Below w1.heap.size w1 V1):=B1
   clear B1 hb1
   go_upto_region 7 with fail
   rw [← hV1]
   clear hV1
   obtain ⟨Ob,hOb⟩:∃ g,g=w1.heap.size+1:=⟨_,rfl⟩
   rw [← hOb] at HOA ⊢
   have hLO:w1.heap.size≤Ob:=by omega
   clear hOb
   obtain ⟨L,hL⟩:∃ g,g=w1.heap.size:=⟨_,rfl⟩
   rw [← hL] at HOA HBL hLO
   generalize L=L0 at *
   have HBA:Hid (∀ W,Below L0 w1 W→Below V.heap.size V W):=fun W hW=>HB1.out.trans (hW.mono (by rw [hL];exact HB1.out.size))
   have hLV:V.heap.size≤L0:=by rw [hL];exact HB1.out.size
   have HL0:Hid (L0=w1.heap.size):=hL
   clear hL
   go_wp2_with fail
   go_loopw [9] (fun i wr=>∃ k:Nat,k≤N∧i = .int .i64 (k:Int)∧(chS cs zs f (chL cr) k).1=0∧(∃ g c,OutAt wr Ob L0 (chS cs zs f (chL cr) k).2 g c)∧Below L0 w1 wr) (fun i _=>N - (intOf i).toNat)
   case atStart=>exact ⟨0,Nat.zero_le _,rfl,rfl,⟨_,_,HOA.out⟩,HBL.out⟩
   case round =>
    obtain ⟨k,hk,rfl,hns,⟨g,c,hoa⟩,hbr⟩:=hrel
    have HNS:=qH5 hns
    have HOA2:=qH5 hoa
    have HBR:=qH5 hbr
    have HBRV:=qH5 (HBA.out _ hbr)
    obtain ⟨b0',b1',bf'⟩:=QA9 hoa.bx
    have hbl':=zL wr _ b0'
    obtain ⟨wl,p,hpk,hpn,hlast⟩:=QI1 (cs:=cs) (zs:=zs) (f:=f) (ch:=chL cr) (by rw [HLN.out];exact hn1) k (by rw [HCL.out];exact hk) hns
    rw [wl] at b1'
    by_cases hlt:k < N
    ·have hlt':(k:Int) < (N:Int):=by omega
     have hk0:(0:Int)≤(k:Int):=by omega
     have hcp:wr.cell? ⟨g,k,none⟩=some (.int .i64 (p:Int)):=by
      have q:=hoa.ow.cellAt k (by omega)
      rw [List.getElem?_map,hpk] at q
      exact q
     have hgl:=zL wr _ hcp
     obtain ⟨sb,so,d,rfl,hd,hat,hdi⟩:=HT.out.at hlt
     have hat2:=hat.below HBRV.out
     have hqk:(chL cr)[k]? = some (d.st,d.zs):=by unfold chL;rw [List.getElem?_map,hd];rfl
     rw [HLN.out] at hpn
     have hw1:IntKind.i64.wrap (k:Int)=(k:Int):=by rw [IntKind.wrap_i64];omega
     have hk8:(k:Int)≤8:=by omega
     have hkk:(k:Int) < (k:Int)+1:=by omega
     obtain ⟨q,hq⟩:∃ q,stC cs zs f p d.st d.zs=q:=⟨_,rfl⟩
     have HQ:Hid (stC cs zs f (qP8 (chS cs zs f (chL cr) k).2) d.st d.zs=q):=by show _=_;rw [hlast];exact hq
     have HST:Hid (∀ W,((∀ b o,b < wr.heap.size→W.cell? ⟨b,o,none⟩=wr.cell? ⟨b,o,none⟩)∧Below wr.heap.size wr W)→Calls Tryz.prog 91 #[.slice a n cap,.slice b m cap',.int .i64 (p:Int),.pointer (some ⟨sb,so+k * 6,none⟩)] W fun d' w'=>d' = .returned (.tuple #[.int .i64 (if q=0 then d.n else 0),.int .i64 q])∧Below W.heap.size W w'):=fun W hW=>by
      have hW2:Below V.heap.size V W:=HBRV.out.trans (hW.2.mono HBRV.out.size)
      have hco:CrO W sb (so+k * 6) d.st d.ga d.gn d.gc d.zs:=⟨(hat.below hW2).st,(hat.below hW2).sl,hdi.below hW2⟩
      have:=l12Step_c a n cap cs b m cap' zs p sb (so+k * 6) d W HAK.out (HC.out.below hW2) hm (qD9.below HS.out hW2) hpn (HL.out k d hd).1 hco
      rw [HFO.out,hq] at this
      exact this
     have HQK:=qH5 hqk
     have HZN:Hid (q=0→0≤d.n):=fun q0=>(QF8 (hq.trans q0)).1
     have HWL:Hid ((chS cs zs f (chL cr) k).2.length=k+1):=wl
     have hsl:=hat2.lt
     clear hns hoa hbr hpk hlast hd hat hat2 hdi hqk hq wl
     by_cases q0:q=0
     ·subst q0
      obtain ⟨i,hin⟩:∃ i:Nat,d.n=(i:Int):=Int.eq_ofNat_of_zero_le (HZN.out rfl)
      have HIN:Hid (d.n.toNat=i):=by show _=_;rw [hin,Int.toNat_natCast]
      rw [hin] at HST
      have HNX:Hid (chS cs zs f (chL cr) (k+1)=(0,(chS cs zs f (chL cr) k).2++[i])):=by show _=_;rw [chS_ok HNS.out HQK.out HQ.out];simp only;rw [HIN.out]
      clear hin
      go_wp2_with fail
      go_region_held3 (fun w'=>(∀ b o,b < wr.heap.size→w'.cell? ⟨b,o,none⟩=wr.cell? ⟨b,o,none⟩)∧Below wr.heap.size wr w') (first | exact hS | exact qB6 _)
       (first
        | (go_at_call 91;refine (HST.out _ (by assumption)).mono ?_;rintro e w' ⟨rfl,hbz⟩;have hS:=qA8 (by assumption) hbz))
      have HO3:=qH5 (HOA2.out.below hS.2)
      have HB3:=qH5 (HBR.out.trans (hS.2.mono (by rw [HL0.out];exact HBR.out.size)))
      have HOW:Hid (w'.ownsRow L0 2 1 (.slice (some ⟨g,0,none⟩) (k+1) c) (k+1) ((chS cs zs f (chL cr) k).2.map (fun p:Nat=>Value.int .i64 (p:Int)))):=by
       have:=HO3.out.ow
       rw [HWL.out] at this
       exact this
      have HN:Hid (g≠Ob):=by
       obtain ⟨g1,c1,e1,cur,q,hcur⟩:=qV5 HOW.out (by omega)
       cases e1
       exact QG4 hcur HO3.out.bx (by decide)
      have hbx3:=HO3.out.bx
      rw [HWL.out] at hbx3
      obtain ⟨_,e1,_⟩:=QA9 hbx3
      have hl3:Ob < w'.heap.size:=zL w' _ e1
      have hLw:L0≤w'.heap.size:=by omega
      have HBX:=qH5 hbx3
      clear hbx3 b0' b1' bf' hcp hgl hbl' hsl
      go_wp2_with (first
       | (at_builtin;refine wpList_append_own _ rfl _ _ 30 rfl L0 2 i0 (.int .i64 0) 1 8 Tryz.underlying30 hi hz0 hz1 hz2 rfl (by decide) _ _ _ rfl (HOW.out.alloc _) ⟨w'.heap.size,0,none⟩ 1 1 [.int .i64 (i:Int)] rfl rfl ?c1 ?c2 ?c3 ?c4 ?c5 ?_)
       | fail)
      case c1 =>
       intro j u hj
       match j,hj with
       | 0,hj=>simp at hj;subst hj;simp [Addr.add]
      case c2=>intro u hu;simp at hu;subst hu;rfl
      case c3=>unfold maxLen;omega
      case c4=>omega
      case c5=>simp;omega
      intro v' w9 hown' hgrow hnil
      have HB9:Hid (w9.heap[Ob]? = some (.cells #[.int .i64 0,.slice (some ⟨g,0,none⟩) (k+1) c] 100 (0,0))):=by
       have h1:=hgrow.block Ob (by simp;omega) (fun e=>HN.out (by simp [Value.ownBlock] at e;exact e.symm))
       refine h1.trans ?_
       show (w'.heap.push _)[Ob]? = _
       rw [Array.getElem?_push_lt hl3,← Array.getElem?_eq_getElem hl3]
       exact HBX.out
      obtain ⟨a0,a1,af⟩:=QA9 HB9.out
      have hl9:=zL w9 _ a0
      obtain ⟨g',c',rfl,cur,qq,hcur⟩:=qV5 hown' (by omega)
      have HN9:Hid (g'≠Ob):=QG4 hcur HB9.out (by decide)
      have HBN:Hid (Below L0 w1 w9):=(HB3.out.alloc hLw _).grown hgrow (by simp;omega) (fun j hj=>(HOW.out.lt j hj).1)
      have HO9:Hid (w9.ownsRow L0 2 1 (.slice (some ⟨g',0,none⟩) (k+1+1) c') (k+1+1) ((chS cs zs f (chL cr) k).2.map (fun p:Nat=>Value.int .i64 (p:Int))++[.int .i64 (i:Int)])):=hown'
      clear hown' hgrow hnil hcur
      go_wp2_with fail
      refine ⟨⟨k+1,by omega,by go_num,by rw [HNX.out],⟨g',c',⟨?_,?_⟩⟩,HBN.out.setCell hLO _⟩,by simp [intOf];omega⟩
      ·rw [HNX.out]
       simp only
       rw [List.length_append,HWL.out]
       exact out_set HB9.out _
      ·rw [HNX.out]
       simp only
       rw [List.length_append,List.map_append,HWL.out]
       exact qT4 HO9.out (fun b e=>Below.heap_setCell _ _ _ _ (by simp [Value.ownBlock] at e;subst e;exact HN9.out))
     ·have qb:(q != 0)=true:=by simp [q0]
      have HBD:Hid (chS cs zs f (chL cr) N=(q,(chS cs zs f (chL cr) k).2)):=by
       show _=_
       have e1:=QS3 HNS.out HQK.out (by rw [HQ.out];exact q0)
       rw [HQ.out] at e1
       rw [QW6 (k:=k+1) (by rw [e1];exact q0) N (by omega),e1]
      have HVL2:Hid (vcL cs zs (chL cr)=[]∧qC7 cs zs (chL cr)=q):=⟨by rw [HVL.out,HBD.out];simp only;rw [if_neg q0],by rw [HVC.out,HBD.out]⟩
      rw [if_neg q0] at HST
      clear q0
      go_wp2_with fail
      go_region_held3 (fun w'=>(∀ b o,b < wr.heap.size→w'.cell? ⟨b,o,none⟩=wr.cell? ⟨b,o,none⟩)∧Below wr.heap.size wr w') (first | exact hS | exact qB6 _)
       (first
        | (go_at_call 91;refine (HST.out _ (by assumption)).mono ?_;rintro e w' ⟨rfl,hbz⟩;have hS:=qA8 (by assumption) hbz))
      have HB3:Hid (Below V.heap.size V w'):=HBRV.out.trans (hS.2.mono HBRV.out.size)
      have X2:=qI7.below RB.out hVl HB3.out
      have r0:=X2.1 0 _ rfl
      have r1:=X2.1 1 _ rfl
      have f0:=X2.2 0
      have f1:=X2.2 1
      have hw2:w.heap.size < w'.heap.size:=by have:=HB3.out.size;omega
      clear X2 hcp hgl b0' b1' bf' hbl' hsl
      go_wp2_with fail
      refine bodyPost_ret (v:=.agg #[.int .i64 q,.slice none 0 0]) (by simp [results,Tryz.results47,go_sem,r0,r1,hw2]) rfl ⟨none,0,by rw [HVL2.out.1,HVL2.out.2];rfl,by rw [HVL2.out.1];exact World.ownsRow_nil _ _ _ _,?_⟩
      exact ((HBV.out.trans (HB3.out.mono HBV.out.size)).setCell (Nat.le_refl _) _).setCell (Nat.le_refl _) _
    ·have hkN:k=N:=by omega
     subst hkN
     have hlt':¬ ((k:Int) < (k:Int)):=by omega
     have HVL2:Hid (vcL cs zs (chL cr)=(chS cs zs f (chL cr) k).2.map (fun p:Nat=>(p:Int))∧qC7 cs zs (chL cr)=0):=⟨by rw [HVL.out,if_pos HNS.out],by rw [HVC.out,HNS.out]⟩
     have HWL:Hid ((chS cs zs f (chL cr) k).2.length=k+1):=wl
     have HO5:Hid (wr.ownsRow L0 2 1 (.slice (some ⟨g,0,none⟩) (k+1) c) (k+1) ((chS cs zs f (chL cr) k).2.map (fun p:Nat=>Value.int .i64 (p:Int)))):=by
      have:=hoa.ow
      rw [wl] at this
      exact this
     have X2:=qI7.below RB.out hVl HBRV.out
     have r0:=X2.1 0 _ rfl
     have r1:=X2.1 1 _ rfl
     have f0:=X2.2 0
     have f1:=X2.2 1
     have hw2:w.heap.size < wr.heap.size:=by have:=HBRV.out.size;omega
     clear X2 hns hoa hbr hpk hlast wl
     go_wp2_with fail
     refine bodyPost_ret (v:=.agg #[.int .i64 0,.slice (some ⟨g,0,none⟩) (k+1) c]) (by simp [results,Tryz.results47,go_sem,r0,r1,hw2]) rfl ⟨some ⟨g,0,none⟩,c,by rw [HVL2.out.1,HVL2.out.2,List.length_map,HWL.out],?_,?_⟩
     ·rw [HVL2.out.1,List.length_map,HWL.out,List.map_map]
      exact QG8 (qT5 (qT5 HO5.out (a:=⟨w.heap.size,0,none⟩) (by show w.heap.size < _;omega) _) (a:=⟨w.heap.size,1,none⟩) (by show w.heap.size < _;omega) _) (by omega)
     ·exact ((HBV.out.trans (HBRV.out.mono HBV.out.size)).setCell (Nat.le_refl _) _).setCell (Nat.le_refl _) _
 ·have HVC:Hid (qC7 cs zs (chL cr)=v):=by show _=_;unfold qC7;rw [if_neg (by rw [hv];exact v0),hv]
  have HVL:Hid (vcL cs zs (chL cr)=[]):=by show _=_;unfold vcL;rw [if_neg (by rw [HVC.out];exact v0)]
  have vb:(v != 0)=true:=by simp [v0]
  rw [HVC.out,HVL.out]
  clear h h' hs hv v0 BV HVL HVC hl
  go_enter Tryz.func47,Tryz.ntmps47
  go_upto_region 1 with fail
  rw [← hV]
  clear hV
  go_wp2_with fail
  refine HAS.out.mono ?_
  rintro e w1 ⟨rfl,hb1⟩
  have HB1:=qH5 hb1
  have X2:=qI7.below RB.out hVl HB1.out
  have r0:=X2.1 0 _ rfl
  have r1:=X2.1 1 _ rfl
  have f0:=X2.2 0
  have f1:=X2.2 1
  have hw2:w.heap.size < w1.heap.size:=by have:=HB1.out.size;omega
  clear X2 hb1
  go_wp2_with fail
  refine bodyPost_ret (v:=.agg #[.int .i64 v,.slice none 0 0]) (by simp [results,Tryz.results47,go_sem,r0,r1,hw2]) rfl ⟨none,0,rfl,World.ownsRow_nil _ _ _ _,?_⟩
  exact ((HBV.out.trans (HB1.out.mono HBV.out.size)).setCell (Nat.le_refl _) _).setCell (Nat.le_refl _) _

end Go.Proofs.YthogdfnaojijhaaGreat
