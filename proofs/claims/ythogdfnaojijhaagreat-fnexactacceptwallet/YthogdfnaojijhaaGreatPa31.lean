/- Contracts. -/
import Derived.Test.YthogdfnaojijhaaGreatPa29
import Derived.Test.YthogdfnaojijhaaGreatPa30
namespace Go.Proofs.YthogdfnaojijhaaGreat
set_option maxRecDepth 100000
set_option maxHeartbeats 8000000
open Go.RowKit
set_option linter.unusedVariables false
set_option linter.unusedSimpArgs false

def grV (a:Option Addr) (n cap:Nat) (b:Option Addr) (m cap':Nat) (cs:List qA3):Value:=if qB5 cs=0 then .agg #[.slice a n cap,.slice b m cap',.int .i64 (fOf cs)] else .agg #[.slice none 0 0,.slice none 0 0,.int .i64 0]
theorem groundOf_c (a:Option Addr) (n cap:Nat) (cs:List qA3) (b:Option Addr) (m cap':Nat) (zs:List ShI) (w:World) (hn:n≤1048576) (hle:qH4 1048576 cs) (h:qB1 w a n cs) (hm:m≤1048576) (hcap:m≤cap') (hcm:cap'≤maxLen) (h':qD9 w b m zs) :
  Calls Tryz.prog 72 #[.slice a n cap,.slice b m cap'] w fun e w'=>e = .returned (.tuple #[grV a n cap b m cap' cs,.int .i64 (qG0 cs zs)])∧Below w.heap.size w w':=by
 obtain ⟨V,hV⟩:∃ V,V=w.alloc (.cells #[.slice none 0 0,.slice none 0 0,.int .i64 0] 126):=⟨_,rfl⟩
 have BV:Below w.heap.size w V:=by rw [hV];exact zN
 have RB:Hid (qI7 w.heap.size [.slice none 0 0,.slice none 0 0,.int .i64 0] V):=by rw [hV];exact qI5 w _ _
 have hVl:w.heap.size < V.heap.size:=by rw [hV];simp
 have HBV:=qH5 BV
 obtain ⟨k,hk⟩:∃ k,qB5 cs=k:=⟨_,rfl⟩
 have HCF:=QC7 a n cap cs V hn hle (h.below BV)
 rw [hk] at HCF
 have HCF:=qH5 HCF
 by_cases k0:k=0
 ·subst k0
  obtain ⟨hn1, -, -⟩:=qW5 hk
  rw [h.len] at hn1
  obtain ⟨b0,off0,c0,rfl,hc0,hat0, -⟩:=h.at (k:=0) hn1
  rw [Nat.zero_mul,Nat.add_zero] at hat0
  obtain ⟨f,hf⟩:∃ f,fOf cs=f:=⟨_,rfl⟩
  have hcf:c0.f=f:=by rw [← hf];unfold fOf;rw [hc0];rfl
  have HAT:Hid (qE2 V b0 off0 c0):=hat0.below BV
  obtain ⟨v,hv⟩:∃ v,qB9 f zs=v:=⟨_,rfl⟩
  have HSF:Hid (∀ W,Below V.heap.size V W→Calls Tryz.prog 78 #[.slice b m cap',.int .i64 f] W fun e w'=>e = .returned (.int .i64 v)∧Below W.heap.size W w'):=fun W hW=>by
   have:=qI1 b m cap' zs f W hm hcap hcm ((qD9.below h' BV).below hW)
   rw [hv] at this
   exact this
  have HAK:Hid (qG0 cs zs=v∧grV (some ⟨b0,off0,none⟩) n cap b m cap' cs = .agg #[.slice (some ⟨b0,off0,none⟩) n cap,.slice b m cap',.int .i64 f]):=by
   constructor
   ·unfold qG0
    rw [if_pos hk,← hv,← hf]
    rfl
   ·unfold grV
    rw [if_pos hk,hf]
  rw [HAK.out.1,HAK.out.2]
  have hn0:(0:Int) < (n:Int):=by omega
  clear h h' hk hc0 hat0 hf hv BV HAK
  go_enter Tryz.func72,Tryz.ntmps72
  go_upto_region 1 with fail
  rw [← hV]
  clear hV
  go_wp2_with fail
  refine HCF.out.mono ?_
  rintro e w1 ⟨rfl,hb1⟩
  have HB1:=qH5 hb1
  obtain ⟨_,y1, -⟩:=HAT.out.below hb1
  rw [hcf] at y1
  have hl0:=zL w1 _ y1
  clear hb1 hcf
  go_wp2_with fail
  refine (HSF.out _ HB1.out).mono ?_
  rintro e w2 ⟨rfl,hb2⟩
  have HB2:Hid (Below V.heap.size V w2):=HB1.out.trans (hb2.mono HB1.out.size)
  have X2:=qI7.below RB.out hVl HB2.out
  have r0:=X2.1 0 _ rfl
  have r1:=X2.1 1 _ rfl
  have r2:=X2.1 2 _ rfl
  have f0:=X2.2 0
  have f1:=X2.2 1
  have f2:=X2.2 2
  have hw2:w.heap.size < w2.heap.size:=by have:=HB2.out.size;omega
  clear X2 hb2
  go_wp2_with fail
  refine bodyPost_ret (v:=.tuple #[.agg #[.slice (some ⟨b0,off0,none⟩) n cap,.slice b m cap',.int .i64 f],.int .i64 v]) (by simp [results,Tryz.results72,go_sem,r0,r1,r2,hw2]) rfl ⟨rfl,?_⟩
  exact (((HBV.out.trans (HB2.out.mono HBV.out.size)).setCell (Nat.le_refl _) _).setCell (Nat.le_refl _) _).setCell (Nat.le_refl _) _
 ·have HAK:Hid (qG0 cs zs=k∧grV a n cap b m cap' cs = .agg #[.slice none 0 0,.slice none 0 0,.int .i64 0]):=by
   constructor
   ·unfold qG0
    rw [if_neg (by rw [hk];exact k0),hk]
   ·unfold grV
    rw [if_neg (by rw [hk];exact k0)]
  have kb:(k != 0)=true:=by simp [k0]
  rw [HAK.out.1,HAK.out.2]
  clear h h' hk k0 BV HAK
  go_enter Tryz.func72,Tryz.ntmps72
  go_upto_region 1 with fail
  rw [← hV]
  clear hV
  go_wp2_with fail
  refine HCF.out.mono ?_
  rintro e w2 ⟨rfl,hb2⟩
  have HB2:Hid (Below V.heap.size V w2):=hb2
  have X2:=qI7.below RB.out hVl HB2.out
  have r0:=X2.1 0 _ rfl
  have r1:=X2.1 1 _ rfl
  have r2:=X2.1 2 _ rfl
  have f0:=X2.2 0
  have f1:=X2.2 1
  have f2:=X2.2 2
  have hw2:w.heap.size < w2.heap.size:=by have:=HB2.out.size;omega
  clear X2 hb2
  go_wp2_with fail
  refine bodyPost_ret (v:=.tuple #[.agg #[.slice none 0 0,.slice none 0 0,.int .i64 0],.int .i64 k]) (by simp [results,Tryz.results72,go_sem,r0,r1,r2,hw2]) rfl ⟨rfl,?_⟩
  exact (((HBV.out.trans (HB2.out.mono HBV.out.size)).setCell (Nat.le_refl _) _).setCell (Nat.le_refl _) _).setCell (Nat.le_refl _) _

theorem gr_agg (a:Option Addr) (n cap:Nat) (b:Option Addr) (m cap':Nat) (cs:List qA3):∃ (x0 x1:Value) (x2:Int),grV a n cap b m cap' cs = .agg #[x0,x1,.int .i64 x2]∧(x0 = .slice none 0 0∨x0 = .slice a n cap)∧(x1 = .slice none 0 0∨x1 = .slice b m cap'):=by
 unfold grV
 by_cases q:qB5 cs=0
 ·rw [if_pos q];exact ⟨_,_,_,rfl,.inr rfl,.inr rfl⟩
 ·rw [if_neg q];exact ⟨_,_,_,rfl,.inl rfl,.inl rfl⟩

end Go.Proofs.YthogdfnaojijhaaGreat
