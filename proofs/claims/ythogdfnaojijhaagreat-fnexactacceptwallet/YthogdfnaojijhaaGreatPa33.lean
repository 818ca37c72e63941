/- Contracts. -/
import Derived.Test.YthogdfnaojijhaaGreatPa30
import Derived.Test.YthogdfnaojijhaaGreatPa32
namespace Go.Proofs.YthogdfnaojijhaaGreat
set_option maxRecDepth 100000
set_option maxHeartbeats 8000000
open Go.RowKit
set_option linter.unusedVariables false
set_option linter.unusedSimpArgs false

def stC (cs:List qA3) (zs:List ShI) (f:Int) (p:Nat) (x:StI) (ys:List Int):Int:=if vfL f zs x ys=0 then (if x.k≠3 then 1 else if x.e≠eAt cs p then 10 else nfC cs x.e x.n) else vfL f zs x ys
def toC (cs:List qA3) (zs:List ShI) (f:Int) (p:Nat) (x:StI) (ys:List Int):Int:=if vfL f zs x ys=0 then (if x.k≠3 then 0 else if x.e≠eAt cs p then 0 else x.n) else 0
def chS (cs:List qA3) (zs:List ShI) (f:Int) (ch:List (StI × List Int)):Nat→Int × List Nat
 | 0=>(0,[0])
 | k+1=>if (chS cs zs f ch k).1=0 then (match ch[k]? with
  | none=>chS cs zs f ch k
  | some q=>if stC cs zs f (qP8 (chS cs zs f ch k).2) q.1 q.2=0 then (0,(chS cs zs f ch k).2++[q.1.n.toNat]) else (stC cs zs f (qP8 (chS cs zs f ch k).2) q.1 q.2,(chS cs zs f ch k).2)) else chS cs zs f ch k
theorem QF8 {cs:List qA3} {zs:List ShI} {f:Int} {p:Nat} {x:StI} {ys:List Int} (h:stC cs zs f p x ys=0):0≤x.n∧x.n.toNat < cs.length∧toC cs zs f p x ys=x.n:=by
 unfold stC at h
 unfold toC
 by_cases q:vfL f zs x ys=0
 ·rw [if_pos q] at h ⊢
  by_cases q1:x.k≠3
  ·rw [if_pos q1] at h;omega
  ·rw [if_neg q1] at h ⊢
   by_cases q2:x.e≠eAt cs p
   ·rw [if_pos q2] at h;omega
   ·rw [if_neg q2] at h ⊢
    unfold nfC at h
    by_cases q3:x.n < 0∨(cs.length:Int)≤x.n
    ·rw [if_pos q3] at h;omega
    ·exact ⟨by omega,by omega,rfl⟩
 ·rw [if_neg q] at h;exact absurd h q
theorem QW6 {cs:List qA3} {zs:List ShI} {f:Int} {ch:List (StI × List Int)} {k:Nat} (h:(chS cs zs f ch k).1≠0):∀ m,k≤m→chS cs zs f ch m=chS cs zs f ch k:=by
 intro m hm
 induction m with
 | zero=>rw [show k=0 by omega]
 | succ m ih =>
  by_cases q:k=m+1
  ·rw [q]
  ·have e:=ih (by omega)
   rw [chS,if_neg (by rw [e];exact h)]
   exact e
theorem chS_ok {cs:List qA3} {zs:List ShI} {f:Int} {ch:List (StI × List Int)} {k:Nat} {q:StI × List Int} (h:(chS cs zs f ch k).1=0) (hq:ch[k]? = some q) (hs:stC cs zs f (qP8 (chS cs zs f ch k).2) q.1 q.2=0):chS cs zs f ch (k+1)=(0,(chS cs zs f ch k).2++[q.1.n.toNat]):=by
 rw [chS,if_pos h,hq]
 simp only
 rw [if_pos hs]
theorem QS3 {cs:List qA3} {zs:List ShI} {f:Int} {ch:List (StI × List Int)} {k:Nat} {q:StI × List Int} (h:(chS cs zs f ch k).1=0) (hq:ch[k]? = some q) (hs:stC cs zs f (qP8 (chS cs zs f ch k).2) q.1 q.2≠0):chS cs zs f ch (k+1)=(stC cs zs f (qP8 (chS cs zs f ch k).2) q.1 q.2,(chS cs zs f ch k).2):=by
 rw [chS,if_pos h,hq]
 simp only
 rw [if_neg hs]
theorem QI1 {cs:List qA3} {zs:List ShI} {f:Int} {ch:List (StI × List Int)} (h0:0 < cs.length):∀ k,k≤ch.length→(chS cs zs f ch k).1=0→(chS cs zs f ch k).2.length=k+1∧∃ p,(chS cs zs f ch k).2[k]? = some p∧p < cs.length∧qP8 (chS cs zs f ch k).2=p
 | 0,_,_=>⟨rfl,0,rfl,h0,rfl⟩
 | k+1,hk,h=>by
  have hq:=List.getElem?_eq_getElem (l:=ch) (i:=k) (by omega)
  by_cases hz:(chS cs zs f ch k).1=0
  ·obtain ⟨hl,_⟩:=QI1 h0 k (by omega) hz
   by_cases hs:stC cs zs f (qP8 (chS cs zs f ch k).2) (ch[k]'(by omega)).1 (ch[k]'(by omega)).2=0
   ·rw [chS_ok hz hq hs]
    refine ⟨by simp [hl],_,?_,(QF8 hs).2.1,last_app _ _⟩
    rw [List.getElem?_append_right (by omega),hl]
    simp
   ·rw [QS3 hz hq hs] at h
    exact absurd h hs
  ·rw [chS,if_neg hz] at h
   exact absurd h hz
theorem QY2 {x:StI} (h:qB8 x=0):(1≤x.e∧x.e≤9)∧0≤x.n:=by
 unfold qB8 at h
 split at h
 ·omega
 ·split at h
  ·omega
  ·split at h
   ·omega
   ·rename_i q1 q2 q3
    simp only [Bool.not_eq_false] at q1 q2 q3
    have h1:=of_decide_eq_true q2
    unfold rngB at q3
    unfold ownI at h1
    split at q3
    ·cases q3
    ·rename_i q4
     simp only [Bool.not_eq_false] at q4
     refine ⟨(qD2 _ _ _).1 q4,?_⟩
     split at q3
     ·rename_i q5
      rw [if_pos q5] at h1
      rw [h1]
      exact Int.le_refl 0
     ·exact ((qD2 _ _ _).1 q3).1
theorem vfL_st {f:Int} {zs:List ShI} {x:StI} {ys:List Int} (h:vfL f zs x ys=0):qB8 x=0:=by
 unfold vfL at h
 by_cases q:qB8 x=0
 ·exact q
 ·rw [if_neg q] at h;exact h
theorem l12Step_c (a:Option Addr) (n cap:Nat) (cs:List qA3) (b:Option Addr) (m cap':Nat) (zs:List ShI) (p:Nat) (cb o:Nat) (c:CrI) (w:World) (hk:qG0 cs zs=0) (h:qB1 w a n cs) (hm:m≤1048576) (h':qD9 w b m zs) (hp:p < n) (hgn:c.gn≤1048576) (hc:CrO w cb o c.st c.ga c.gn c.gc c.zs) :
  Calls Tryz.prog 91 #[.slice a n cap,.slice b m cap',.int .i64 (p:Int),.pointer (some ⟨cb,o,none⟩)] w fun d w'=>d = .returned (.tuple #[.int .i64 (if stC cs zs (fOf cs) p c.st c.zs=0 then c.n else 0),.int .i64 (stC cs zs (fOf cs) p c.st c.zs)])∧Below w.heap.size w w':=by
 have HLN:Hid (cs.length=n):=h.len
 have HEO:Hid (∀ p,p < n→1≤eAt cs p∧eAt cs p≤9):=fun p hp=>e_of (ak_ok hk).1 (by rw [h.len];exact hp)
 obtain ⟨hk1,hk2⟩:=ak_ok hk
 obtain ⟨hn1,hn8, -⟩:=qW5 hk1
 rw [h.len] at hn1 hn8
 obtain ⟨hf0, -, -⟩:=sh_ok hk2
 obtain ⟨b0,off0,cc0,ea,hcc0,hc0a, -⟩:=h.at (k:=0) (by omega)
 subst ea
 rw [Nat.zero_mul,Nat.add_zero] at hc0a
 obtain ⟨f,hfe⟩:∃ f,fOf cs=f:=⟨_,rfl⟩
 have hcf:cc0.f=f:=by rw [← hfe];unfold fOf;rw [hcc0];rfl
 rw [hfe] at hf0 ⊢
 obtain ⟨_,z1, -⟩:=hc0a
 rw [hcf] at z1
 have hl0:=zL w _ z1
 obtain ⟨e,hee⟩:∃ e,eAt cs p=e:=⟨_,rfl⟩
 have HEE:Hid (eAt cs p=e):=hee
 obtain ⟨_,_,cp,ecp,hcpe,hcpa, -⟩:=h.at hp
 cases ecp
 have hcpe2:cp.e=e:=by rw [← hee];unfold eAt;rw [hcpe];rfl
 have HPA:=qH5 hcpa
 have HC:=qH5 h
 have HCR:=qH5 hc
 obtain ⟨v,hv⟩:∃ v,vfL f zs c.st c.zs=v:=⟨_,rfl⟩
 have HV:=qS2 b m cap' zs f cb o c.st c.ga c.gn c.gc c.zs w hm hgn hf0 h' hc
 rw [hv] at HV
 have HV:=qH5 HV
 have hnp:0 < n:=hn1
 have hn0:(0:Int) < (n:Int):=by omega
 have hp':(p:Int) < (n:Int):=by omega
 obtain ⟨r,hr⟩:∃ r,stC cs zs f p c.st c.zs=r:=⟨_,rfl⟩
 have HR:Hid (r=if v=0 then (if c.k≠3 then 1 else if c.e≠e then 10 else nfC cs c.e c.n) else v):=by show r=_;rw [← hr,← hv,← hee];rfl
 obtain ⟨t,ht⟩:∃ t,(if stC cs zs f p c.st c.zs=0 then c.n else 0)=t:=⟨_,rfl⟩
 have HT:Hid (t=if r=0 then c.n else 0):=by show t=_;rw [← ht,hr]
 rw [ht,hr]
 have HNN:Hid (v=0→0≤c.n):=fun q=>by
  rw [q] at hv
  exact (QY2 (vfL_st hv)).2
 clear hv hr ht hee hcpe hcpa hcc0 hk hk1 hk2 hf0 h h' hcf hfe
 by_cases v0:v=0
 ·subst v0
  have hnn:=HNN.out rfl
  go_enter Tryz.func91,Tryz.ntmps91
  go_wp2_with fail
  refine HV.out.mono ?_
  rintro d w1 ⟨rfl,hb1⟩
  have HB1:=qH5 hb1
  obtain ⟨⟨s0,s1,s2,s3,s4⟩, -, -⟩:=HCR.out.below hb1
  have hcl:=zL w1 _ s0
  obtain ⟨V,hV⟩:∃ V,V=w1.alloc (.cells #[.int .i64 c.k,.int .i64 c.e,.int .i64 c.f,.int .i64 c.s,.int .i64 c.n] 29):=⟨_,rfl⟩
  have BV:Below w1.heap.size w1 V:=by rw [hV];exact zN
  have HX:Hid (qJ1 w1.heap.size [.int .i64 c.k,.int .i64 c.e,.int .i64 c.f,.int .i64 c.s,.int .i64 c.n] V):=by rw [hV];exact (qD0 w1 _ _).out
  have hXl:w1.heap.size < V.heap.size:=by rw [hV];simp
  have HBV:Hid (Below w.heap.size w V):=HB1.out.trans (BV.mono HB1.out.size)
  clear hb1 BV
  go_upto_region 5 with fail
  rw [← hV]
  clear hV s0 s1 s2 s3 s4 hcl z1 hl0
  generalize w1.heap.size=Sb at HX hXl ⊢
  have x0:=HX.out 0 _ rfl
  have x1:=HX.out 1 _ rfl
  have x4:=HX.out 4 _ rfl
  by_cases k3:c.k=3
  ·have kb:(c.k != 3)=false:=by simp [k3]
   obtain ⟨y0, -⟩:=HPA.out.below HBV.out
   rw [hcpe2] at y0
   have hyl:=zL V _ y0
   by_cases ke:c.e=e
   ·have eb:(c.e != e)=false:=by simp [ke]
    by_cases hge:(n:Int)≤c.n
    ·have hgb:decide (c.n ≥ (n:Int))=true:=by simp;omega
     have HRR:Hid (r=3∧t=0):=by
      have : r=3:=by rw [HR.out,if_pos trivial,if_neg (by simp [k3]),if_neg (by simp [ke])];unfold nfC;rw [if_pos (.inr (by rw [HLN.out];exact hge))]
      exact ⟨this,by rw [HT.out,if_neg (by rw [this];omega)]⟩
     clear k3 ke
     go_wp2_with fail
     go_quiet (fail)
     go_wp2_with fail
     refine bodyPost_ret (v:=.tuple #[.int .i64 0,.int .i64 3]) (by simp [results,Tryz.results91,go_sem]) rfl ?_
     exact ⟨by rw [HRR.out.1,HRR.out.2],by first | exact below_drewN HBV.out _ | exact below_drewN (below_drewN HBV.out _) _⟩
    ·have hgb:decide (c.n ≥ (n:Int))=false:=by simp;omega
     obtain ⟨i,hin⟩:∃ i:Nat,c.n=(i:Int):=Int.eq_ofNat_of_zero_le hnn
     have hi:i < n:=by omega
     obtain ⟨_,_,ci,eci,hci,hcia, -⟩:=HC.out.at hi
     cases eci
     obtain ⟨u0, -⟩:=hcia.below HBV.out
     have hi':(i:Int) < (n:Int):=by omega
     rw [hin] at x4 hgb
     have HNF:Hid (nfC cs c.e c.n=if ci.e=c.e+1 then 0 else 10):=by
      show _=_
      unfold nfC
      rw [if_neg (by rw [HLN.out];omega),hin,Int.toNat_natCast,hci]
      by_cases q:ci.e=c.e+1
      ·rw [if_pos q,if_neg (by simp [q])]
      ·rw [if_neg q,if_pos (by simpa using q)]
     obtain ⟨he1,he9⟩:1≤c.e∧c.e≤9:=by
      have:=HEE.out
      rw [ke,← this]
      exact HEO.out p hp
     have hwe:IntKind.i64.wrap (c.e+1)=c.e+1:=by rw [IntKind.wrap_i64];omega
     have hul:=zL V _ u0
     by_cases kn:ci.e=c.e+1
     ·have nb:(ci.e != c.e+1)=false:=by simp [kn]
      have HRR:Hid (r=0∧t=(i:Int)):=by
       have : r=0:=by rw [HR.out,if_pos trivial,if_neg (by simp [k3]),if_neg (by simp [ke]),HNF.out,if_pos kn]
       exact ⟨this,by rw [HT.out,if_pos this,hin]⟩
      clear k3 ke kn hci hcia hin
      go_wp2_with fail
      go_quiet (fail)
      go_wp2_with fail
      go_quiet (fail)
      go_wp2_with fail
      refine bodyPost_ret (v:=.tuple #[.int .i64 (i:Int),.int .i64 0]) (by simp [results,Tryz.results91,go_sem]) rfl ?_
      exact ⟨by rw [HRR.out.1,HRR.out.2],by first | exact below_drewN HBV.out _ | exact below_drewN (below_drewN HBV.out _) _⟩
     ·have nb:(ci.e != c.e+1)=true:=by simp [kn]
      have HRR:Hid (r=10∧t=0):=by
       have : r=10:=by rw [HR.out,if_pos trivial,if_neg (by simp [k3]),if_neg (by simp [ke]),HNF.out,if_neg kn]
       exact ⟨this,by rw [HT.out,if_neg (by rw [this];omega)]⟩
      clear k3 ke kn hci hcia hin
      go_wp2_with fail
      go_quiet (fail)
      go_wp2_with fail
      go_quiet (fail)
      go_wp2_with fail
      refine bodyPost_ret (v:=.tuple #[.int .i64 0,.int .i64 10]) (by simp [results,Tryz.results91,go_sem]) rfl ?_
      exact ⟨by rw [HRR.out.1,HRR.out.2],by first | exact below_drewN HBV.out _ | exact below_drewN (below_drewN HBV.out _) _⟩
   ·have eb:(c.e != e)=true:=by simp [ke]
    have HRR:Hid (r=10∧t=0):=by
     have : r=10:=by rw [HR.out,if_pos trivial,if_neg (by simp [k3]),if_pos ke]
     exact ⟨this,by rw [HT.out,if_neg (by rw [this];omega)]⟩
    clear k3 ke
    go_wp2_with fail
    go_quiet (fail)
    go_wp2_with fail
    refine bodyPost_ret (v:=.tuple #[.int .i64 0,.int .i64 10]) (by simp [results,Tryz.results91,go_sem]) rfl ?_
    exact ⟨by rw [HRR.out.1,HRR.out.2],by first | exact below_drewN HBV.out _ | exact below_drewN (below_drewN HBV.out _) _⟩
  ·have kb:(c.k != 3)=true:=by simp [k3]
   have HRR:Hid (r=1∧t=0):=by
    have : r=1:=by rw [HR.out,if_pos trivial,if_pos k3]
    exact ⟨this,by rw [HT.out,if_neg (by rw [this];omega)]⟩
   clear k3
   go_wp2_with fail
   refine bodyPost_ret (v:=.tuple #[.int .i64 0,.int .i64 1]) (by simp [results,Tryz.results91,go_sem]) rfl ?_
   exact ⟨by rw [HRR.out.1,HRR.out.2],HBV.out⟩
 ·have vb:(v != 0)=true:=by simp [v0]
  have HRR:Hid (r=v∧t=0):=by
   have : r=v:=by rw [HR.out,if_neg v0]
   exact ⟨this,by rw [HT.out,if_neg (by rw [this];exact v0)]⟩
  clear v0
  go_enter Tryz.func91,Tryz.ntmps91
  go_wp2_with fail
  refine HV.out.mono ?_
  rintro d w1 ⟨rfl,hb1⟩
  go_wp2_with fail
  refine bodyPost_ret (v:=.tuple #[.int .i64 0,.int .i64 v]) (by simp [results,Tryz.results91,go_sem]) rfl ?_
  exact ⟨by rw [HRR.out.1,HRR.out.2],hb1⟩

end Go.Proofs.YthogdfnaojijhaaGreat
