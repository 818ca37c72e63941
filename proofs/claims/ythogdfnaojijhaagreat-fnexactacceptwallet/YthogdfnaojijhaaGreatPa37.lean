/- Contracts. -/
import Derived.Test.YthogdfnaojijhaaGreatPa32
namespace Go.Proofs.YthogdfnaojijhaaGreat
set_option maxRecDepth 100000
set_option maxHeartbeats 8000000
open Go.RowKit
set_option linter.unusedVariables false
set_option linter.unusedSimpArgs false

def kindB (said:List StI) (k e:Int):Bool:=said.any (fun x=>decide (x.k=k)&&decide (x.e=e))
def kindAt (said:List StI) (k e:Int):Option StI:=said.find? (fun x=>decide (x.k=k)&&decide (x.e=e))
def sealB (said:List StI) (e:Int):Bool:=kindB said 3 e || kindB said 4 e
def QB1 (x:StI):StI:=⟨2,x.e,x.f,x.s,0⟩
def saidB (said:List StI) (x:StI):Bool:=said.any (fun y=>qE3 y x)

theorem QD6 (x:StI) (w:World):Calls Tryz.prog 81 #[.agg #[.int .i64 x.k,.int .i64 x.e,.int .i64 x.f,.int .i64 x.s,.int .i64 x.n]] w fun e w'=>e = .returned (.agg #[.int .i64 2,.int .i64 x.e,.int .i64 x.f,.int .i64 x.s,.int .i64 0])∧Below w.heap.size w w':=by
 go_enter Tryz.func81,Tryz.ntmps81
 go_wp2
 refine bodyPost_ret (v:=.agg #[.int .i64 2,.int .i64 x.e,.int .i64 x.f,.int .i64 x.s,.int .i64 0]) (by simp [results,Tryz.results81,go_sem]) rfl ⟨rfl,(zN).alloc (by simp) _⟩

def frI:List Int→Int
 | []=>0
 | r::rs=>if r=0 then frI rs else r
theorem qU6 (a:Option Addr) (n cap:Nat) (rs:List Int) (w:World) (hn:n≤1048576) (h:qC1 w a n rs) :
  Calls Tryz.prog 33 #[.slice a n cap] w fun e w'=>e = .returned (.int .i64 (frI rs))∧w=w':=by
 have H:Hid (qC1 w a n rs):=h
 have HZ:Hid (rs.length=n):=h.1
 clear h
 have hn':(n:Int)≤1048576:=by omega
 go_enter Tryz.func33,Tryz.ntmps33
 go_wp2_with fail
 go_loop [7] (fun i=>∃ k:Nat,k≤n∧i = .int .i64 (k:Int)∧frI rs=frI (rs.drop k)) (fun i=>n - (intOf i).toNat)
 case atStart=>exact ⟨0,Nat.zero_le _,rfl,rfl⟩
 case round =>
  obtain ⟨k,hk,rfl,hf⟩:=hrel
  have HF:Hid (frI rs=frI (rs.drop k)):=hf
  clear hf
  by_cases hlt:k < n
  ·obtain ⟨b,off,x,rfl,hs,hxa,hgl⟩:=H.out.at hlt
   have hlt':(k:Int) < (n:Int):=by omega
   have hk0:(0:Int)≤(k:Int):=by omega
   have HD:Hid (frI rs=if x=0 then frI (rs.drop (k+1)) else x):=by
    show _=_
    have hkl:k < rs.length:=by have:=HZ.out;omega
    rw [HF.out,List.drop_eq_getElem_cons hkl]
    have : rs[k]=x:=by rw [List.getElem?_eq_getElem hkl] at hs;exact Option.some.inj hs
    rw [this]
    rfl
   clear hs
   by_cases q:x=0
   ·have qb:(x != 0)=false:=by simp [q]
    have HN:Hid (frI rs=frI (rs.drop (k+1))):=by show _=_;rw [HD.out,if_pos q]
    clear q
    go_wp2
    exact ⟨⟨k+1,by omega,by go_num,HN.out⟩,by simp [intOf];omega⟩
   ·have qb:(x != 0)=true:=by simp [q]
    have HN:Hid (frI rs=x):=by show _=_;rw [HD.out,if_neg q]
    clear q
    go_wp2
    go_ret
    exact ⟨by rw [HN.out];rfl,rfl⟩
  ·have hkn:k=n:=by omega
   subst hkn
   have HN:Hid (frI rs=0):=by
    show _=_
    rw [HF.out,List.drop_eq_nil_of_le (by have:=HZ.out;omega)]
    rfl
   go_wp2
   go_ret
   exact ⟨by rw [HN.out];rfl,rfl⟩
theorem intIn2 {w:World} {g:Nat} {c d:Int} (h0:w.cell? ⟨g,0,none⟩=some (.int .i64 c)) (h1:w.cell? ⟨g,1,none⟩=some (.int .i64 d)):qC1 w (some ⟨g,0,none⟩) 2 [c,d]:=by
 refine ⟨rfl,fun _=>⟨g,0,rfl,fun k r e=>?_⟩⟩
 match k,e with
 | 0,e=>simp at e;subst e;exact h0
 | 1,e=>simp at e;subst e;exact h1
theorem QZ3 (g:Nat) (c d:Int) (w:World) (h0:w.cell? ⟨g,0,none⟩=some (.int .i64 c)) (h1:w.cell? ⟨g,1,none⟩=some (.int .i64 d)) :
  Calls Tryz.prog 33 #[.slice (some ⟨g,0,none⟩) 2 2] w fun e w'=>e = .returned (.int .i64 (frI [c,d]))∧w=w' :=
 qU6 _ 2 2 _ w (by omega) (intIn2 h0 h1)
theorem qN1 (b:Bool) (k:Int) (w:World):Calls Tryz.prog 54 #[.bool b,.int .i64 k] w fun e w'=>e = .returned (.int .i64 (if b=true then k else 0))∧w=w':=by
 cases b
 ·go_enter Tryz.func54,Tryz.ntmps54
  go_wp2
  go_ret
  exact ⟨rfl,rfl⟩
 ·go_enter Tryz.func54,Tryz.ntmps54
  go_wp2
  go_ret
  exact ⟨rfl,rfl⟩
abbrev KW (W W':World):Prop:=(∀ b o,b < W.heap.size→W'.cell? ⟨b,o,none⟩=W.cell? ⟨b,o,none⟩)∧Below W.heap.size W W'
def isC (x:StI):Int:=if qB8 x=0 then (if x.k=1 then 0 else 1) else qB8 x
theorem QM1 (x:StI) (w:World):Calls Tryz.prog 34 #[.agg #[.int .i64 x.k,.int .i64 x.e,.int .i64 x.f,.int .i64 x.s,.int .i64 x.n]] w fun e w'=>e = .returned (.int .i64 (isC x))∧Below w.heap.size w w':=by
 obtain ⟨V,hV⟩:∃ V,V=w.alloc (.cells #[.int .i64 x.k,.int .i64 x.e,.int .i64 x.f,.int .i64 x.s,.int .i64 x.n] 29):=⟨_,rfl⟩
 have BV:Below w.heap.size w V:=by rw [hV];exact zN
 have HX:qX1 V w.heap.size 0 x:=by rw [hV];exact qX1.new w x _
 have hVl:w.heap.size < V.heap.size:=by rw [hV];simp
 obtain ⟨t,ht⟩:∃ t,qB8 x=t:=⟨_,rfl⟩
 have HT:Hid (∀ w:World,Calls Tryz.prog 77 #[.agg #[.int .i64 x.k,.int .i64 x.e,.int .i64 x.f,.int .i64 x.s,.int .i64 x.n]] w fun e w'=>e = .returned (.int .i64 t)∧Below w.heap.size w w'):=by rw [← ht];exact qD7 x
 obtain ⟨b,hb⟩:∃ b,(x.k != 1)=b:=⟨_,rfl⟩
 obtain ⟨u,hu⟩:∃ u,(if b=true then (1:Int) else 0)=u:=⟨_,rfl⟩
 have HC:Hid (frI [t,u]=isC x):=by
  show _=_
  unfold isC frI frI frI
  rw [ht,← hu,← hb]
  by_cases q:t=0
  ·rw [if_pos q,if_pos q]
   by_cases r:x.k=1
   ·simp [r]
   ·simp [r]
  ·rw [if_neg q,if_neg q]
 have HR:Hid (∀ w,Calls Tryz.prog 54 #[.bool b,.int .i64 1] w fun e w'=>e = .returned (.int .i64 u)∧w=w'):=fun w=>by rw [← hu];exact qN1 b 1 w
 obtain ⟨x0,x1,x2,x3,x4⟩:=HX
 simp only [Nat.zero_add] at x0 x1 x2 x3 x4
 clear ht hu
 go_enter Tryz.func34,Tryz.ntmps34
 go_upto_region 1 with fail
 rw [← hV]
 clear hV
 go_region_held3 (fun w'=>KW V w') (first | exact hS | exact qB6 _ | exact qV6 (by assumption) _ | assumption)
  (first | (go_at_call 77;refine (HT.out _).mono ?_;rintro e w' ⟨rfl,hb2⟩;have hS:=qA8 (by assumption) hb2) | (go_at_call 54;refine (HR.out _).mono ?_;rintro e w' ⟨rfl,rfl⟩) | (go_at_call 33;refine (QZ3 _ t u _ ?_ ?_).mono ?_;(· simp [go_sem]);(· simp [go_sem]);rintro e w' ⟨rfl,rfl⟩;rw [HC.out]))
 have hS3:=qV6 hS (.cells #[.int .i64 t,.int .i64 u] 2)
 go_wp2
 go_ret
 exact ⟨rfl,BV.trans (hS3.2.mono BV.size)⟩

def bkB (f:Int) (zs:List ShI) (x:StI) (ch:List (StI × List Int)):Bool:=ch.any (fun q=>qE3 q.1 (QB1 x)&&decide (vfL f zs q.1 q.2=0))
def rvB (f:Int) (zs:List ShI) (x:StI) (ch:List (StI × List Int)):Bool:=decide (qB9 f zs=0)&&(decide (qB8 x=0)&&(decide (ch.length≤10)&&bkB f zs x ch))
theorem bk_drop {f:Int} {zs:List ShI} {x:StI} {cr:List CrI} {j:Nat} {c:CrI} (h:cr[j]? = some c):bkB f zs x (chL (cr.drop j))=((qE3 c.st (QB1 x)&&decide (vfL f zs c.st c.zs=0)) || bkB f zs x (chL (cr.drop (j+1)))):=by
 have hj:j < cr.length:=by
  by_cases q:j < cr.length
  ·exact q
  ·rw [List.getElem?_eq_none (by omega)] at h;cases h
 rw [List.drop_eq_getElem_cons hj]
 have : cr[j]=c:=by rw [List.getElem?_eq_getElem hj] at h;exact Option.some.inj h
 rw [this]
 rfl
theorem bk_end {f:Int} {zs:List ShI} {x:StI} {cr:List CrI} {j:Nat} (h:cr.length≤j):bkB f zs x (chL (cr.drop j))=false:=by
 rw [List.drop_eq_nil_of_le h]
 rfl
theorem QI0 (c:CrI) (x:StI) (b:Bool) (h:qE3 c.st (QB1 x)=b) (w:World):(binOp .eql 29 (.agg #[.int .i64 c.k,.int .i64 c.e,.int .i64 c.f,.int .i64 c.s,.int .i64 c.n]) (.agg #[.int .i64 2,.int .i64 x.e,.int .i64 x.f,.int .i64 x.s,.int .i64 0])).run Tryz.prog w = .ok (.bool b) w:=by
 have:=QK5 c.st (QB1 x) w
 rw [h] at this
 exact this
theorem QZ0 (bx bs bf:Nat) (a:Option Addr) (n cap:Nat) (zs:List ShI) (f:Int) (x:StI) (c:CrI) (w:World) (hn:n≤1048576) (hcap:n≤cap) (hcm:cap≤maxLen) (hgn:c.gn≤1048576) (hok:qB9 f zs=0) (h:qD9 w a n zs) (hg:qC1 w c.ga c.gn c.zs) (hx:qX1 w bx 0 x) (hs:w.cell? ⟨bs,0,none⟩=some (.slice a n cap)) (hf:w.cell? ⟨bf,0,none⟩=some (.int .i64 f)) :
  Calls Tryz.prog 103 #[.agg #[.int .i64 c.k,.int .i64 c.e,.int .i64 c.f,.int .i64 c.s,.int .i64 c.n,.slice c.ga c.gn c.gc],.pointer (some ⟨bx,0,none⟩),.pointer (some ⟨bs,0,none⟩),.pointer (some ⟨bf,0,none⟩)] w fun d w'=>d = .returned (.bool (qE3 c.st (QB1 x)&&decide (vfL f zs c.st c.zs=0)))∧Below w.heap.size w w':=by
 obtain ⟨V,hV⟩:∃ V,V=w.alloc (.cells #[.int .i64 c.k,.int .i64 c.e,.int .i64 c.f,.int .i64 c.s,.int .i64 c.n,.slice c.ga c.gn c.gc] 32):=⟨_,rfl⟩
 have BV:Below w.heap.size w V:=by rw [hV];exact zN
 have HCA:CrAt V w.heap.size c.st c.ga c.gn c.gc c.zs:=by rw [hV];exact QW5 w c.st c.ga c.gn c.gc c.zs _ hg
 have hVl:w.heap.size < V.heap.size:=HCA.lt
 have hxl0:bx < w.heap.size:=zL w ⟨bx,0,none⟩ hx.1
 have hxl:bx < V.heap.size:=Nat.lt_of_lt_of_le hxl0 BV.size
 obtain ⟨x0,x1,x2,x3,x4⟩:=hx.below BV hxl0
 have s0:=(BV.cell (p:=⟨bs,0,none⟩) (zL w _ hs)).trans hs
 have f0:=(BV.cell (p:=⟨bf,0,none⟩) (zL w _ hf)).trans hf
 have hsl:=zL V _ s0
 have hfl:=zL V _ f0
 have HSH:Hid (qD9 V a n zs):=h.below BV
 have HIN:Hid (qC1 V c.ga c.gn c.zs):=HCA.row
 obtain ⟨v,hv⟩:∃ v,vfL f zs c.st c.zs=v:=⟨_,rfl⟩
 have HVC:Hid (∀ W:World,KW V W→Calls Tryz.prog 55 #[.slice a n cap,.int .i64 f,.agg #[.int .i64 c.k,.int .i64 c.e,.int .i64 c.f,.int .i64 c.s,.int .i64 c.n,.slice c.ga c.gn c.gc]] W fun e w'=>e = .returned (.int .i64 v)∧Below W.heap.size W w'):=fun W hW=>by
  have:=qJ4 a n cap zs f c.st c.ga c.gn c.gc c.zs W hn hcap hcm hgn (HSH.out.below hW.2) (HIN.out.below hW.2)
  rw [vf_eq,if_pos hok,hv] at this
  exact this
 rw [hv]
 obtain ⟨⟨z0,z1,z2,z3,z4⟩,z5, -⟩:=HCA
 simp only [Nat.zero_add] at z0 z1 z2 z3 z4 x0 x1 x2 x3 x4
 clear h hg hx hs hf hv hok
 cases q:qE3 c.st (QB1 x)
 ·have hse:=QI0 c x false q
  have HR:Hid (∀ W:World,Calls Tryz.prog 81 #[.agg #[.int .i64 x.k,.int .i64 x.e,.int .i64 x.f,.int .i64 x.s,.int .i64 x.n]] W fun e w'=>e = .returned (.agg #[.int .i64 2,.int .i64 x.e,.int .i64 x.f,.int .i64 x.s,.int .i64 0])∧Below W.heap.size W w'):=fun W=>QD6 x W
  clear q
  go_enter Tryz.func103,Tryz.ntmps103
  go_upto_region 1 with fail
  rw [← hV]
  clear hV
-- hand revoked1
  refine wp_region_held_drew (S:=fun w'=>KW V w') (by kernel_rfl) (qB6 _) (fun hHeld=>?_)
  refine Zk.go [0,1,2] ?_
  iterate 3
   refine Zk.st (v:=?_) rfl ?_ ?_
   rotate_left 1
   ·intro w hSw;(try dsimp only at hSw);go_simp;try (with_reducible rfl)
   try simp only [Act.put,zA,zB,zC,zD,zE,zF]
  refine Zk.fin ?_
  refine Zk.rd (i:=3) rfl (fun K hK=>?_)
  go_simp
  refine (HR.out _).mono ?_
  rintro e w' ⟨rfl,hb2⟩
  have hS:=qA8 (by assumption) hb2
  refine hK.out _ _ hS (fun hHeld=>?_)
  clear hK K
  try simp only [Act.put,zA,zB,zC,zD,zE,zF]
  refine Zk.go [4,5,6,7,8,9,10,11] ?_
  iterate 2
   refine Zk.st (v:=?_) rfl ?_ ?_
   rotate_left 1
   ·intro w hSw;(try dsimp only at hSw);go_simp;try (with_reducible rfl)
   try simp only [Act.put,zA,zB,zC,zD,zE,zF]
  iterate 5 (refine Zk.un rfl ?_;try simp only [Act.put,zA,zB,zC,zD,zE,zF])
  refine Zk.st (v:=?_) rfl ?_ ?_
  rotate_left 1
  ·intro w hSw;(try dsimp only at hSw);go_simp;try (with_reducible rfl)
  try simp only [Act.put,zA,zB,zC,zD,zE,zF]
  refine Zk.fin ?_
  refine Zk.rd (i:=12) rfl (fun K hK=>?_)
  go_simp
  refine hK.out _ _ (by assumption) (fun hHeld=>?_)
  clear hK K
  try simp only [Act.put,zA,zB,zC,zD,zE,zF]
  refine wpAnyH_done (by kernel_rfl) ?_ _
-- end hand revoked1
  go_wp2
  go_ret
  exact ⟨rfl,BV.trans (hS.2.mono BV.size)⟩
 ·have hse:=QI0 c x true q
  have HR:Hid (∀ W:World,Calls Tryz.prog 81 #[.agg #[.int .i64 x.k,.int .i64 x.e,.int .i64 x.f,.int .i64 x.s,.int .i64 x.n]] W fun e w'=>e = .returned (.agg #[.int .i64 2,.int .i64 x.e,.int .i64 x.f,.int .i64 x.s,.int .i64 0])∧Below W.heap.size W w'):=fun W=>QD6 x W
  obtain ⟨b,hb⟩:∃ b,(v==0)=b:=⟨_,rfl⟩
  have HB:Hid (decide (v=0)=b):=by show _=_;rw [← hb];by_cases q:v=0 <;> simp [q]
  clear q
  go_enter Tryz.func103,Tryz.ntmps103
  go_upto_region 1 with fail
  rw [← hV]
  clear hV
  go_region_held3 (fun w'=>KW V w') (first | exact hS | exact qB6 _)
   (first | (go_at_call 81;refine (HR.out _).mono ?_;rintro e w' ⟨rfl,hb2⟩;have hS:=qA8 (by assumption) hb2) | (go_at_call 55;refine (HVC.out _ (by assumption)).mono ?_;rintro e w' ⟨rfl,hb2⟩;have hS:=qA8 (by assumption) hb2))
  go_wp2
  go_ret
  exact ⟨by rw [HB.out];rfl,BV.trans (hS.2.mono BV.size)⟩
theorem QZ1 (bx bs bf:Nat) (a:Option Addr) (n cap:Nat) (zs:List ShI) (f:Int) (x:StI) (s:Option Addr) (N sc:Nat) (cr:List CrI) (w:World) (hn:n≤1048576) (hcap:n≤cap) (hcm:cap≤maxLen) (hok:qB9 f zs=0) (h:qD9 w a n zs) (hN:N≤1048576) (hcr:qK3 w s N cr) (hl:∀ (k:Nat) c,cr[k]? = some c→c.gn≤1048576) (hx:qX1 w bx 0 x) (hs:w.cell? ⟨bs,0,none⟩=some (.slice a n cap)) (hf:w.cell? ⟨bf,0,none⟩=some (.int .i64 f)) :
  Calls Tryz.prog 137 #[.slice s N sc,.func (.func 103) #[] #[.pointer (some ⟨bx,0,none⟩),.pointer (some ⟨bs,0,none⟩),.pointer (some ⟨bf,0,none⟩)]] w fun d w'=>(∃ i:Int,d = .returned (.int .i64 i)∧decide (0≤i)=bkB f zs x (chL cr))∧Below w.heap.size w w':=by
 have HZ:Hid (cr.length=N):=hcr.len
 have H:Hid (qK3 w s N cr):=hcr
 have HL:=qC3 hl
 have hxl:bx < w.heap.size:=zL w ⟨bx,0,none⟩ hx.1
 have hsl:=zL w _ hs
 have hfl:=zL w _ hf
 have HC:Hid (∀ (c:CrI) (w2:World),Below w.heap.size w w2→c.gn≤1048576→qC1 w c.ga c.gn c.zs→Calls Tryz.prog 103 #[.agg #[.int .i64 c.k,.int .i64 c.e,.int .i64 c.f,.int .i64 c.s,.int .i64 c.n,.slice c.ga c.gn c.gc],.pointer (some ⟨bx,0,none⟩),.pointer (some ⟨bs,0,none⟩),.pointer (some ⟨bf,0,none⟩)] w2 fun d w'=>d = .returned (.bool (qE3 c.st (QB1 x)&&decide (vfL f zs c.st c.zs=0)))∧Below w2.heap.size w2 w'):=fun c w2 hb hc hi=>QZ0 bx bs bf a n cap zs f x c w2 hn hcap hcm hc hok (h.below hb) (hi.below hb) (hx.below hb hxl) ((hb.cell (p:=⟨bs,0,none⟩) hsl).trans hs) ((hb.cell (p:=⟨bf,0,none⟩) hfl).trans hf)
 clear h hcr hl hx hs hf hxl hsl hfl hok
 have hN':(N:Int)≤1048576:=by omega
 go_enter Tryz.func137,Tryz.ntmps137
 go_wp2_with fail
 go_loopw [8] (fun i wr=>∃ j:Nat,j≤N∧i = .int .i64 (j:Int)∧Hid (bkB f zs x (chL cr)=bkB f zs x (chL (cr.drop j)))∧Below w.heap.size w wr) (fun i _=>N - (intOf i).toNat)
 case atStart=>exact ⟨0,Nat.zero_le _,rfl,rfl,Below.refl _ _⟩
 case round =>
  obtain ⟨j,hj,rfl,HP,hnx⟩:=hrel
  by_cases hlt:j < N
  ·obtain ⟨g,off,c,rfl,hc,hat,hdi⟩:=H.out.at hlt
   have HBK:Hid (bkB f zs x (chL cr)=((qE3 c.st (QB1 x)&&decide (vfL f zs c.st c.zs=0)) || bkB f zs x (chL (cr.drop (j+1))))):=HP.out.trans (bk_drop hc)
   obtain ⟨b,hb⟩:∃ b,(qE3 c.st (QB1 x)&&decide (vfL f zs c.st c.zs=0))=b:=⟨_,rfl⟩
   have HQ:Hid (Calls Tryz.prog 103 #[.agg #[.int .i64 c.k,.int .i64 c.e,.int .i64 c.f,.int .i64 c.s,.int .i64 c.n,.slice c.ga c.gn c.gc],.pointer (some ⟨bx,0,none⟩),.pointer (some ⟨bs,0,none⟩),.pointer (some ⟨bf,0,none⟩)] wr fun d w'=>d = .returned (.bool b)∧Below wr.heap.size wr w'):=by have:=HC.out c wr hnx (HL.out j c hc) hdi;rw [hb] at this;exact this
   rw [hb] at HBK
   have hgw:g < wr.heap.size:=Nat.lt_of_lt_of_le hat.lt hnx.size
   obtain ⟨⟨c0,c1,c2,c3,c4⟩,c5⟩:=hat.below hnx
   have hlt':(j:Int) < (N:Int):=by omega
   have hj0:(0:Int)≤(j:Int):=by omega
   clear hc hat hdi hb
   cases b
   ·rw [Bool.false_or] at HBK
    go_wp2_with fail
    refine HQ.out.mono ?_
    rintro d w1 ⟨rfl,hb1⟩
    clear c0 c1 c2 c3 c4 c5
    go_wp2
    exact ⟨⟨j+1,by omega,by go_num,HBK,hnx.trans (hb1.mono hnx.size)⟩,by simp [intOf];omega⟩
   ·rw [Bool.true_or] at HBK
    have HI:Hid (decide ((0:Int)≤(j:Int))=bkB f zs x (chL cr)):=by show _=_;rw [HBK.out];simp
    go_wp2_with fail
    refine HQ.out.mono ?_
    rintro d w1 ⟨rfl,hb1⟩
    clear c0 c1 c2 c3 c4 c5
    go_wp2
    go_ret
    exact ⟨⟨_,rfl,HI.out⟩,hnx.trans (hb1.mono hnx.size)⟩
  ·have hkn:j=N:=by omega
   subst hkn
   have HI:Hid (decide ((0:Int) ≤ -1)=bkB f zs x (chL cr)):=by show _=_;rw [HP.out,bk_end (by rw [HZ.out];exact Nat.le_refl _)];rfl
   go_wp2
   go_ret
   exact ⟨⟨_,rfl,HI.out⟩,hnx⟩
theorem revAny_c (bx bs bf:Nat) (a:Option Addr) (n cap:Nat) (zs:List ShI) (f:Int) (x:StI) (s:Option Addr) (N sc:Nat) (cr:List CrI) (w:World) (hn:n≤1048576) (hcap:n≤cap) (hcm:cap≤maxLen) (hok:qB9 f zs=0) (h:qD9 w a n zs) (hN:N≤1048576) (hcr:qK3 w s N cr) (hl:∀ (k:Nat) c,cr[k]? = some c→c.gn≤1048576) (hx:qX1 w bx 0 x) (hs:w.cell? ⟨bs,0,none⟩=some (.slice a n cap)) (hf:w.cell? ⟨bf,0,none⟩=some (.int .i64 f)) :
  Calls Tryz.prog 102 #[.slice s N sc,.func (.func 103) #[] #[.pointer (some ⟨bx,0,none⟩),.pointer (some ⟨bs,0,none⟩),.pointer (some ⟨bf,0,none⟩)]] w fun d w'=>d = .returned (.bool (bkB f zs x (chL cr)))∧Below w.heap.size w w':=by
 have HC:=qC3 (QZ1 bx bs bf a n cap zs f x s N sc cr w hn hcap hcm hok h hN hcr hl hx hs hf)
 clear h hcr hl hx hs hf hok
 go_enter Tryz.func102,Tryz.ntmps102
 go_wp2_with fail
 refine HC.out.mono ?_
 rintro e w1 ⟨⟨i,rfl,hi⟩,hb1⟩
 have HX:Hid (decide (0≤i)=bkB f zs x (chL cr)):=hi
 clear hi
 go_wp2
 go_ret
 exact ⟨by rw [← HX.out];rfl,hb1⟩
abbrev GivesRV (fn:Nat) (a:Option Addr) (n cap:Nat) (f:Int) (x:StI) (s:Option Addr) (N sc:Nat) (b:Bool) (w:World):Prop:=Calls Tryz.prog fn #[.slice a n cap,.int .i64 f,.agg #[.int .i64 x.k,.int .i64 x.e,.int .i64 x.f,.int .i64 x.s,.int .i64 x.n],.slice s N sc] w fun e w'=>e = .returned (.bool b)∧Below w.heap.size w w'
theorem QH2 (a:Option Addr) (n cap:Nat) (zs:List ShI) (f:Int) (x:StI) (s:Option Addr) (N sc:Nat) (cr:List CrI) (w:World) (hn:n≤1048576) (hcap:n≤cap) (hcm:cap≤maxLen) (h:qD9 w a n zs) (hN:N≤1048576) (hcr:qK3 w s N cr) (hl:∀ (k:Nat) c,cr[k]? = some c→c.gn≤1048576):GivesRV 57 a n cap f x s N sc (rvB f zs x (chL cr)) w:=by
 obtain ⟨V,hV⟩:∃ V,V=((w.alloc (.cells #[.slice a n cap] 40)).alloc (.cells #[.int .i64 f] 2)).alloc (.cells #[.int .i64 x.k,.int .i64 x.e,.int .i64 x.f,.int .i64 x.s,.int .i64 x.n] 29):=⟨_,rfl⟩
 have BV:Below w.heap.size w V:=by rw [hV];exact ((zN).alloc (by simp) _).alloc (by simp;omega) _
 have s0:V.cell? ⟨w.heap.size,0,none⟩=some (.slice a n cap):=by rw [hV];simp [go_sem]
 have f0:V.cell? ⟨w.heap.size+1,0,none⟩=some (.int .i64 f):=by rw [hV];simp [go_sem]
 have HX:qX1 V (w.heap.size+1+1) 0 x:=by rw [hV];have q:=qX1.new ((w.alloc (.cells #[.slice a n cap] 40)).alloc (.cells #[.int .i64 f] 2)) x 29;simp only [World.size_alloc] at q;exact q
 have hVl:w.heap.size+1+1 < V.heap.size:=by rw [hV];simp
 obtain ⟨c,hc⟩:∃ c,qB9 f zs=c:=⟨_,rfl⟩
 obtain ⟨d,hd⟩:∃ d,qB8 x=d:=⟨_,rfl⟩
 have HSF:Hid (Calls Tryz.prog 78 #[.slice a n cap,.int .i64 f] V fun e w'=>e = .returned (.int .i64 c)∧Below V.heap.size V w'):=by have:=qI1 a n cap zs f V hn hcap hcm (h.below BV);rw [hc] at this;exact this
 have HST:Hid (∀ W:World,Calls Tryz.prog 77 #[.agg #[.int .i64 x.k,.int .i64 x.e,.int .i64 x.f,.int .i64 x.s,.int .i64 x.n]] W fun e w'=>e = .returned (.int .i64 d)∧Below W.heap.size W w'):=by rw [← hd];exact qD7 x
 have HLN:Hid ((chL cr).length=N):=by show _=_;rw [qV8];exact hcr.len
 have HXX:=qC3 HX
 obtain ⟨x0,x1,x2,x3,x4⟩:=HX
 simp only [Nat.zero_add] at x0 x1 x2 x3 x4
 have hmf:∀ (fn:Fn) (first cap:Array Value) (w:World),(Instr.makeFunc fn first cap).run Tryz.prog w = .ok (.func fn first cap) w:=fun _ _ _ _=>rfl
 have HS0:=qC3 s0
 have HF0:=qC3 f0
 have hl1:w.heap.size < V.heap.size:=by omega
 have hl2:w.heap.size+1 < V.heap.size:=by omega
 by_cases c0:c=0
 ·have cb:(c != 0)=false:=by simp [c0]
  by_cases d0:d=0
  ·have db:(d != 0)=false:=by simp [d0]
   by_cases hm:10 < N
   ·have HV:Hid (rvB f zs x (chL cr)=false):=by show _=_;unfold rvB;rw [HLN.out,decide_eq_false (p:=N≤10) (by omega)];simp
    have hmb:decide ((N:Int) > 10)=true:=by simp;omega
    rw [HV.out]
    clear h hcr hl hc hd c0 d0 HXX HS0 HF0 HLN
    go_enter Tryz.func57,Tryz.ntmps57
    go_upto_region 1 with fail
    rw [← hV]
    clear hV
    go_wp2_with fail
    refine HSF.out.mono ?_
    rintro e w1 ⟨rfl,hb1⟩
    have y0:=(hb1.cell (p:=⟨w.heap.size+1+1,0,none⟩) hVl).trans x0
    have y1:=(hb1.cell (p:=⟨w.heap.size+1+1,1,none⟩) hVl).trans x1
    have y2:=(hb1.cell (p:=⟨w.heap.size+1+1,2,none⟩) hVl).trans x2
    have y3:=(hb1.cell (p:=⟨w.heap.size+1+1,3,none⟩) hVl).trans x3
    have y4:=(hb1.cell (p:=⟨w.heap.size+1+1,4,none⟩) hVl).trans x4
    have hl3:w.heap.size+1+1 < w1.heap.size:=Nat.lt_of_lt_of_le hVl hb1.size
    have HB1:=qC3 (BV.trans (hb1.mono BV.size))
    clear hb1
    go_wp2_with fail
    refine (HST.out _).mono ?_
    rintro e w2 ⟨rfl,hb2⟩
    go_wp2
    go_ret
    exact ⟨rfl,HB1.out.trans (hb2.mono HB1.out.size)⟩
   ·have HV:Hid (rvB f zs x (chL cr)=bkB f zs x (chL cr)):=by show _=_;unfold rvB;rw [HLN.out,hc,hd,decide_eq_true c0,decide_eq_true d0,decide_eq_true (p:=N≤10) (by omega)];simp
    have hmb:decide ((N:Int) > 10)=false:=by simp;omega
    rw [HV.out]
    have HAN:Hid (∀ W:World,Below V.heap.size V W→Calls Tryz.prog 102 #[.slice s N sc,.func (.func 103) #[] #[.pointer (some ⟨w.heap.size+1+1,0,none⟩),.pointer (some ⟨w.heap.size,0,none⟩),.pointer (some ⟨w.heap.size+1,0,none⟩)]] W fun d w'=>d = .returned (.bool (bkB f zs x (chL cr)))∧Below W.heap.size W w'):=fun W hb =>
     revAny_c _ _ _ a n cap zs f x s N sc cr W hn hcap hcm (hc.trans c0) ((h.below BV).below hb) hN ((hcr.below BV).below hb) hl (HXX.out.below hb hVl) ((hb.cell (p:=⟨w.heap.size,0,none⟩) hl1).trans HS0.out) ((hb.cell (p:=⟨w.heap.size+1,0,none⟩) hl2).trans HF0.out)
    clear h hcr hl hc hd c0 d0 HXX HS0 HF0 HLN
    go_enter Tryz.func57,Tryz.ntmps57
    go_upto_region 1 with fail
    rw [← hV]
    clear hV
    go_wp2_with fail
    refine HSF.out.mono ?_
    rintro e w1 ⟨rfl,hb1⟩
    have y0:=(hb1.cell (p:=⟨w.heap.size+1+1,0,none⟩) hVl).trans x0
    have y1:=(hb1.cell (p:=⟨w.heap.size+1+1,1,none⟩) hVl).trans x1
    have y2:=(hb1.cell (p:=⟨w.heap.size+1+1,2,none⟩) hVl).trans x2
    have y3:=(hb1.cell (p:=⟨w.heap.size+1+1,3,none⟩) hVl).trans x3
    have y4:=(hb1.cell (p:=⟨w.heap.size+1+1,4,none⟩) hVl).trans x4
    have hl3:w.heap.size+1+1 < w1.heap.size:=Nat.lt_of_lt_of_le hVl hb1.size
    have HB1:=qC3 hb1
    clear hb1
    go_wp2_with fail
    refine (HST.out _).mono ?_
    rintro e w2 ⟨rfl,hb2⟩
    have HB2:=qC3 (HB1.out.trans (hb2.mono HB1.out.size))
    clear hb2 y0 y1 y2 y3 y4
    go_wp2_with fail
    refine (HAN.out _ HB2.out).mono ?_
    rintro e w3 ⟨rfl,hb3⟩
    go_wp2
    go_ret
    exact ⟨rfl,(BV.trans (HB2.out.mono BV.size)).trans (hb3.mono (Nat.le_trans BV.size HB2.out.size))⟩
  ·have db:(d != 0)=true:=by simp [d0]
   have HV:Hid (rvB f zs x (chL cr)=false):=by show _=_;unfold rvB;rw [hd,decide_eq_false d0];simp
   rw [HV.out]
   clear h hcr hl hc hd c0 d0 HXX HS0 HF0 HLN
   go_enter Tryz.func57,Tryz.ntmps57
   go_upto_region 1 with fail
   rw [← hV]
   clear hV
   go_wp2_with fail
   refine HSF.out.mono ?_
   rintro e w1 ⟨rfl,hb1⟩
   have y0:=(hb1.cell (p:=⟨w.heap.size+1+1,0,none⟩) hVl).trans x0
   have y1:=(hb1.cell (p:=⟨w.heap.size+1+1,1,none⟩) hVl).trans x1
   have y2:=(hb1.cell (p:=⟨w.heap.size+1+1,2,none⟩) hVl).trans x2
   have y3:=(hb1.cell (p:=⟨w.heap.size+1+1,3,none⟩) hVl).trans x3
   have y4:=(hb1.cell (p:=⟨w.heap.size+1+1,4,none⟩) hVl).trans x4
   have hl3:w.heap.size+1+1 < w1.heap.size:=Nat.lt_of_lt_of_le hVl hb1.size
   have HB1:=qC3 (BV.trans (hb1.mono BV.size))
   clear hb1
   go_wp2_with fail
   refine (HST.out _).mono ?_
   rintro e w2 ⟨rfl,hb2⟩
   go_wp2
   go_ret
   exact ⟨rfl,HB1.out.trans (hb2.mono HB1.out.size)⟩
 ·have cb:(c != 0)=true:=by simp [c0]
  have HV:Hid (rvB f zs x (chL cr)=false):=by show _=_;unfold rvB;rw [hc,decide_eq_false c0];simp
  rw [HV.out]
  clear h hcr hl hc hd c0 HXX HS0 HF0 HLN
  go_enter Tryz.func57,Tryz.ntmps57
  go_upto_region 1 with fail
  rw [← hV]
  clear hV
  go_wp2_with fail
  refine HSF.out.mono ?_
  rintro e w1 ⟨rfl,hb1⟩
  go_wp2
  go_ret
  exact ⟨rfl,BV.trans (hb1.mono BV.size)⟩
theorem l14Back_c (a:Option Addr) (n cap:Nat) (zs:List ShI) (f:Int) (bx:Nat) (x:StI) (s:Option Addr) (N sc:Nat) (cr:List CrI) (w:World) (hn:n≤1048576) (hf:inR f 1 2=true) (h:qD9 w a n zs) (hx:qX1 w bx 0 x) (hN:N≤1048576) (hcr:qK3 w s N cr) (hl:∀ (k:Nat) c,cr[k]? = some c→c.gn≤1048576) :
  Calls Tryz.prog 50 #[.slice a n cap,.int .i64 f,.pointer (some ⟨bx,0,none⟩),.slice s N sc] w fun e w'=>e = .returned (.bool (bkB f zs x (chL cr)))∧Below w.heap.size w w':=by
 have HZ:Hid (cr.length=N):=hcr.len
 have H:Hid (qK3 w s N cr):=hcr
 have HL:=qC3 hl
 have HSH:=qC3 h
 have hxl:bx < w.heap.size:=zL w ⟨bx,0,none⟩ hx.1
 obtain ⟨x0,x1,x2,x3,x4⟩:=hx
 simp only [Nat.zero_add] at x0 x1 x2 x3 x4
 have HLV:Hid (∀ (cb o:Nat) (c:CrI) (W:World),Below w.heap.size w W→c.gn≤1048576→CrO W cb o c.st c.ga c.gn c.gc c.zs→Calls Tryz.prog 48 #[.slice a n cap,.int .i64 f,.pointer (some ⟨cb,o,none⟩)] W fun e w'=>e = .returned (.int .i64 (vfL f zs c.st c.zs))∧Below W.heap.size W w'):=fun cb o c W hb hc ho=>qS2 a n cap zs f cb o c.st c.ga c.gn c.gc c.zs W hn hc hf (HSH.out.below hb) ho
 clear h hcr hl
 have hN':(N:Int)≤1048576:=by omega
 obtain ⟨V,hV⟩:∃ V,V=(w.alloc (.cells #[.int .i64 2,.int .i64 x.e,.int .i64 x.f,.int .i64 x.s,.int .i64 0] 29)).drew:=⟨_,rfl⟩
 have HBV:Hid (Below w.heap.size w V):=by show Below _ _ _;rw [hV];exact (zN).drew
 have b0:V.cell? ⟨w.heap.size,0,none⟩=some (.int .i64 2):=by rw [hV];simp [go_sem]
 have b1:V.cell? ⟨w.heap.size,1,none⟩=some (.int .i64 x.e):=by rw [hV];simp [go_sem]
 have b2:V.cell? ⟨w.heap.size,2,none⟩=some (.int .i64 x.f):=by rw [hV];simp [go_sem]
 have b3:V.cell? ⟨w.heap.size,3,none⟩=some (.int .i64 x.s):=by rw [hV];simp [go_sem]
 have b4:V.cell? ⟨w.heap.size,4,none⟩=some (.int .i64 0):=by rw [hV];simp [go_sem]
 have hVl:w.heap.size < V.heap.size:=by rw [hV];simp [World.drew]
 have HBX:Hid (qJ1 w.heap.size [.int .i64 2,.int .i64 x.e,.int .i64 x.f,.int .i64 x.s,.int .i64 0] V):=fun j v e=>by
  match j,e with
  | 0,e=>simp at e;subst e;exact b0
  | 1,e=>simp at e;subst e;exact b1
  | 2,e=>simp at e;subst e;exact b2
  | 3,e=>simp at e;subst e;exact b3
  | 4,e=>simp at e;subst e;exact b4
 clear b0 b1 b2 b3 b4
 go_enter Tryz.func50,Tryz.ntmps50
 go_upto_region 1 with fail
 go_region
 rw [← hV]
 clear hV
 clear x0 x1 x2 x3 x4
 go_wp2_with fail
 go_loopw [10] (fun i wr=>∃ j:Nat,j≤N∧i = .int .i64 (j:Int)∧Hid (bkB f zs x (chL cr)=bkB f zs x (chL (cr.drop j)))∧Below V.heap.size V wr) (fun i _=>N - (intOf i).toNat)
 case atStart=>exact ⟨0,Nat.zero_le _,rfl,rfl,Below.refl _ _⟩
 case round =>
  obtain ⟨j,hj,rfl,HP,hnx⟩:=hrel
  by_cases hlt:j < N
  ·have HBR:Hid (Below w.heap.size w wr):=HBV.out.trans (hnx.mono HBV.out.size)
   obtain ⟨g,off,c,rfl,hc,hat,hdi⟩:=H.out.at hlt
   have HBK:Hid (bkB f zs x (chL cr)=((qE3 c.st (QB1 x)&&decide (vfL f zs c.st c.zs=0)) || bkB f zs x (chL (cr.drop (j+1))))):=HP.out.trans (bk_drop hc)
   have hcg:=HL.out j c hc
   have hbw:Below w.heap.size w wr:=HBR.out
   have hat2:=hat.below hbw
   have hgw:g < wr.heap.size:=hat2.lt
   have HCO:Hid (CrO wr g (off+j * 6) c.st c.ga c.gn c.gc c.zs):=⟨hat2.st,hat2.sl,hdi.below hbw⟩
   have HLW:Hid (∀ W:World,KW wr W→Calls Tryz.prog 48 #[.slice a n cap,.int .i64 f,.pointer (some ⟨g,off+j * 6,none⟩)] W fun e w'=>e = .returned (.int .i64 (vfL f zs c.st c.zs))∧Below W.heap.size W w'):=fun W hW=>HLV.out g (off+j * 6) c W (hbw.trans (hW.2.mono hbw.size)) hcg (HCO.out.below hW.2)
   have X:=(qJ1.hold HBX.out (by omega)).below hnx
   have b0:=X.out 0 _ rfl
   have b1:=X.out 1 _ rfl
   have b2:=X.out 2 _ rfl
   have b3:=X.out 3 _ rfl
   have b4:=X.out 4 _ rfl
   have hBw:w.heap.size < wr.heap.size:=Nat.lt_of_lt_of_le hVl hnx.size
   obtain ⟨⟨c0,c1,c2,c3,c4⟩,c5⟩:=hat2
   have hlt':(j:Int) < (N:Int):=by omega
   have hj0:(0:Int)≤(j:Int):=by omega
   clear hc hat hdi hbw X
   cases q:qE3 c.st (QB1 x)
   ·have hse:=QI0 c x false q
    rw [q,Bool.false_and,Bool.false_or] at HBK
    clear q
    go_wp2_with fail
    go_quiet (fail)
    go_wp2
    exact ⟨⟨j+1,by omega,by go_num,HBK,below_drewN hnx _⟩,by simp [intOf];omega⟩
   ·have hse:=QI0 c x true q
    obtain ⟨v,hv⟩:∃ v,vfL f zs c.st c.zs=v:=⟨_,rfl⟩
    rw [q,Bool.true_and,hv] at HBK
    rw [hv] at HLW
    clear q hv
    by_cases v0:v=0
    ·have vb:(v==0)=true:=by simp [v0]
     rw [decide_eq_true v0,Bool.true_or] at HBK
     clear v0
     go_wp2_with fail
     go_region_held3 (fun w'=>KW wr w') (first | exact hS | exact qB6 _)
      (first | (go_at_call 48;refine (HLW.out _ (by assumption)).mono ?_;rintro e w' ⟨rfl,hb2⟩;have hS:=qA8 (by assumption) hb2))
     go_wp2
     go_ret
     exact ⟨by rw [HBK.out];rfl,(HBV.out.trans (hnx.mono HBV.out.size)).trans (hS.2.mono (Nat.le_trans HBV.out.size hnx.size))⟩
    ·have vb:(v==0)=false:=by simp [v0]
     rw [decide_eq_false v0,Bool.false_or] at HBK
     clear v0
     go_wp2_with fail
     go_region_held3 (fun w'=>KW wr w') (first | exact hS | exact qB6 _)
      (first | (go_at_call 48;refine (HLW.out _ (by assumption)).mono ?_;rintro e w' ⟨rfl,hb2⟩;have hS:=qA8 (by assumption) hb2))
     go_wp2
     exact ⟨⟨j+1,by omega,by go_num,HBK,hnx.trans (hS.2.mono hnx.size)⟩,by simp [intOf];omega⟩
  ·have hkn:j=N:=by omega
   subst hkn
   have HI:Hid (bkB f zs x (chL cr)=false):=HP.out.trans (bk_end (by rw [HZ.out];exact Nat.le_refl _))
   go_wp2
   go_ret
   exact ⟨by rw [HI.out];rfl,HBV.out.trans (hnx.mono HBV.out.size)⟩

end Go.Proofs.YthogdfnaojijhaaGreat
