/- Contracts. -/
import Derived.Test.YtlhgjackapdmbaaGreatDoorPe38
import Derived.LaidHandle
namespace Go.Proofs.YtlhgjackapdmbaaGreatDoor
set_option maxRecDepth 100000
set_option maxHeartbeats 8000000
open Go.RowKit
set_option linter.unusedVariables false
set_option linter.unusedSimpArgs false

theorem qJ7 (a:Option Addr) (n cap:Nat) (cs:List qA5) (w:World) (hn:n≤1048576) (hle:qF5 1048576 cs) (h:qA7 w a n cs) :
  Calls Tryz.prog 63 #[.slice a n cap] w fun e w'=>e = .returned (.int .i64 (qB8 cs))∧Below w.heap.size w w':=by
 have H:Hid (qA7 w a n cs):=h
 have HLE:Hid (qF5 1048576 cs):=hle
 have HZ:Hid (cs.length=n):=h.len
 have hn':(n:Int)≤1048576:=by omega
 clear h hle
 by_cases h1:n < 1
 ·have HC:Hid (qB8 cs=2):=by show qB8 cs=2;unfold qB8;rw [if_pos (.inl (by rw [HZ.out];exact h1))]
  have hn0:n=0:=by omega
  subst hn0
  rw [HC.out]
  go_enter Tryz.func63,Tryz.ntmps63
  go_wp2
  go_ret
  exact ⟨rfl,Below.refl _ _⟩
 ·by_cases h8:8 < n
  ·have HC:Hid (qB8 cs=2):=by show qB8 cs=2;unfold qB8;rw [if_pos (.inr (by rw [HZ.out];exact h8))]
   have h1':¬ ((n:Int) < 1):=by omega
   have h8':(8:Int) < (n:Int):=by omega
   rw [HC.out]
   go_enter Tryz.func63,Tryz.ntmps63
   go_wp2
   go_ret
   exact ⟨rfl,Below.refl _ _⟩
  ·have h1':¬ ((n:Int) < 1):=by omega
   have h8':¬ ((8:Int) < (n:Int)):=by omega
   have HC:Hid (qB8 cs=qK3 cs n):=by show qB8 cs=_;unfold qB8;rw [if_neg (by rw [HZ.out];omega),HZ.out]
   obtain ⟨b0,off0,c0,rfl,hc0,hat0,_⟩:=H.out.at (show 0 < n by omega)
   have HC0:Hid ((cs[0]?.getD default).f=c0.f):=by show (cs[0]?.getD default).f=_;rw [hc0];rfl
   have HAT0:Hid (qI9 w b0 off0 c0):=by have:=hat0;rw [Nat.zero_mul,Nat.add_zero] at this;exact this
   clear hc0 hat0
   rw [HC.out]
   go_enter Tryz.func63,Tryz.ntmps63
   go_wp2
   go_loopw [16] (fun i wr=>∃ k:Nat,k≤n∧i = .int .i64 (k:Int)∧qK3 cs k=0∧Below w.heap.size w wr) (fun i _=>n - (intOf i).toNat)
   case atStart=>exact ⟨0,Nat.zero_le _,rfl,rfl,Below.refl _ _⟩
   case round =>
    obtain ⟨k,hk,rfl,hz,hnx⟩:=hrel
    have HK0:Hid (qK3 cs k=0):=hz
    clear hz
    by_cases hlt:k < n
    ·obtain ⟨b,off,c,e,hc,hat,hin⟩:=H.out.at hlt
     cases e
     have hlt':(k:Int) < (n:Int):=by omega
     have hA:=hat.below hnx
     have hl:=hA.lt
     obtain ⟨u0,u1,u2,u3,u4⟩:=hA
     have HN:Hid (qK3 cs (k+1)=if qU8 c=0 then (if c.f=c0.f then 0 else 1) else qU8 c):=by show qK3 cs (k+1)=_;rw [QA4 hc HK0.out,HC0.out]
     obtain ⟨V,hV⟩:∃ V,V=wr.alloc (.cells #[.int .i64 c.e,.int .i64 c.f,.slice c.ra c.rn c.rc,.slice c.fa c.fn c.fc,.slice c.ca c.cn c.cc] 71):=⟨_,rfl⟩
     have BV:Below wr.heap.size wr V:=by rw [hV];exact zN
     have BW:Below w.heap.size w V:=hnx.trans (BV.mono hnx.size)
     have KV:Hid (qQ7 V wr.heap.size c):=by rw [hV];exact qQ7.new wr c _
     obtain ⟨q,hq⟩:∃ q,qU8 c=q:=⟨_,rfl⟩
     rw [hq] at HN
     have HQ:Hid (Calls Tryz.prog 90 #[.agg #[.int .i64 c.e,.int .i64 c.f,.slice c.ra c.rn c.rc,.slice c.fa c.fn c.fc,.slice c.ca c.cn c.cc]] V fun e w'=>e = .returned (.int .i64 q)∧Below V.heap.size V w'):=by rw [← hq];exact qV9 c V (HLE.out.le k c hc) (HLE.out.rc k c hc).1 (HLE.out.rc k c hc).2 (hin.below BW)
     clear hq hc hat hin
     go_wp2_with fail
     rw [← hV]
     clear hV u0 u1 u2 u3 u4
     refine HQ.out.mono ?_
     rintro e w1 ⟨rfl,hb1⟩
     have B1:Below w.heap.size w w1:=BW.trans (hb1.mono BW.size)
     by_cases q0:q=0
     ·have qb:(q != 0)=false:=by simp [q0]
      rw [if_pos q0] at HN
      have hK:=KV.out.below hb1
      have hl1:=hK.lt
      obtain ⟨x0,x1,_⟩:=hK
      have hB1:=HAT0.out.below B1
      have hl0:=hB1.lt
      obtain ⟨y0,y1,_⟩:=hB1
      by_cases hf:c.f=c0.f
      ·have fb:(c.f != c0.f)=false:=by simp [hf]
       rw [if_pos hf] at HN
       clear q0 hf
       go_wp2
       go_quiet (fail)
       go_wp2
       exact ⟨⟨k+1,by omega,by go_num,HN.out,below_drewN B1 _⟩,by simp [intOf];omega⟩
      ·have fb:(c.f != c0.f)=true:=by simp [hf]
       rw [if_neg hf] at HN
       have HE:Hid (qK3 cs n=1):=qR9 cs (k+1) n 1 (by omega) HN.out (by omega)
       clear q0 hf
       go_wp2
       go_quiet (fail)
       go_wp2
       go_ret
       exact ⟨by rw [HE.out];rfl,below_drewN B1 _⟩
     ·have qb:(q != 0)=true:=by simp [q0]
      rw [if_neg q0] at HN
      have HE:Hid (qK3 cs n=q):=qR9 cs (k+1) n q q0 HN.out (by omega)
      clear q0
      go_wp2
      go_ret
      exact ⟨by rw [HE.out];rfl,B1⟩
    ·have hkn:k=n:=by omega
     have hlt':¬ ((k:Int) < (n:Int)):=by omega
     have HE:Hid (qK3 cs n=0):=by rw [← hkn];exact HK0.out
     clear hkn
     go_wp2
     go_ret
     exact ⟨by rw [HE.out];rfl,hnx⟩

theorem qS0 {P:Program} {w:World} {ops:Array Oper} {rest:List Oper} {o:Oper} {a:Act} {Q:Exit→Act→World→Prop} (hgd:o.guard=none) (s x:Operand) (t:TypeId)
  (ho:o.op = .call { callee:=.builtin .append,args:=#[s,x],argTypes:=#[t,t] })
  (base:Nat) (e:TypeId) (i:TypeInfo) (z:Value) (size bytes:Nat) (ht:P.underlying t=some (.slice e)) (hi:P.info? e=some i) (hz:i.zero=some z)
  (hsize:i.size=size) (hby:i.bytes=bytes) (hzs:z.cells.size=size) (hsz:0 < size)
  (v:Value) (n:Nat) (xs:List Value) (hs:a.eval s=v) (hown:w.ownsRow base e size v n xs) (hv:v ≠ .slice none 0 0)
  (ad:Option Addr) (m c:Nat) (news:List Value) (hx:a.eval x = .slice ad m c) (hnil:ad=none→m=0∧c=0) (hl:news.length=m * size) (hnews:∀ p,ad=some p→∀ j u,news[j]? = some u→w.cell? (p.add j)=some u) (h1:∀ u∈news,u.oneCell'=true)
  (h63:n+m≤maxLen) (hbytes:(n+m) * bytes≤140737488355328) (hbase:base≤w.heap.size)
  (h:∀ v' w',w'.ownsRow base e size v' (n+m) (xs++news)→w.grownBy w' v.ownBlock→v' ≠ .slice none 0 0→wpList P ops Q rest (a.put o.dst v') w'):wpList P ops Q (o::rest) a w:=by
 cases ad with
 | none =>
  obtain ⟨rfl,rfl⟩:=hnil rfl
  obtain rfl:news=[]:=List.length_eq_zero_iff.1 (by rw [hl];omega)
  refine wpList_append_own_none hgd s x t ho base e i size ht hi v n xs hs hown hx ?_
  exact h v w (by simpa using hown) (qM8 _ _) hv
 | some p=>exact wpList_append_own w hgd s x t ho base e i z size bytes ht hi hz hsize hby hzs hsz v n xs hs hown p m c news hx hl (hnews p rfl) h1 h63 hbytes hbase (fun v' w' a1 a2 a3=>h v' w' a1 a2 (fun q=>hv (a3.1 q).1))
theorem qW2 {b B:Nat} {vs:List Value} {W W':World} (h:qG2 b vs W) (hb:b < W.heap.size) (hg:W.grownBy W' (some B)) (hne:b≠B):qG2 b vs W':=by
 have k:=hg.block b hb (by simpa using hne)
 exact ⟨fun j v e=>(World.cell?_of_block (w:=W) (w':=W') (a:=⟨b,j,none⟩) k).trans (h.1 j v e),fun j=>(World.frozen?_of_block (w:=W) (w':=W') (a:=⟨b,j,none⟩) k).trans (h.2 j)⟩
theorem qY7 {w:World} {b o n:Nat} {gs:List StI} (h:qM5 w (some ⟨b,o,none⟩) n gs):∀ j u,(qC4 gs)[j]? = some u→w.cell? ((⟨b,o,none⟩:Addr).add j)=some u:=by
 intro j u hj
 have hjl:j < gs.length * 5:=by
  by_cases q:j < gs.length * 5
  ·exact q
  ·rw [List.getElem?_eq_none (by rw [QA3];omega)] at hj;cases hj
 have hk:j / 5 < gs.length:=by omega
 obtain ⟨b',o',e',hc⟩:=h.2 (by have:=h.1;omega)
 cases e'
 have hp:=hc (j / 5) _ (List.getElem?_eq_getElem hk)
 obtain ⟨f0,f1,f2,f3,f4⟩:=QN1 gs (j / 5) _ (List.getElem?_eq_getElem hk)
 obtain ⟨p0,p1,p2,p3,p4⟩:=hp
 rw [Go.WideShapes.add_plain]
 have hr:j=j / 5 * 5∨j=j / 5 * 5+1∨j=j / 5 * 5+2∨j=j / 5 * 5+3∨j=j / 5 * 5+4:=by omega
 rcases hr with e | e | e | e | e
 ·rw [e] at hj ⊢;rw [f0] at hj;cases hj;exact p0
 ·rw [e] at hj ⊢;rw [f1] at hj;cases hj;rw [← Nat.add_assoc];exact p1
 ·rw [e] at hj ⊢;rw [f2] at hj;cases hj;rw [← Nat.add_assoc];exact p2
 ·rw [e] at hj ⊢;rw [f3] at hj;cases hj;rw [← Nat.add_assoc];exact p3
 ·rw [e] at hj ⊢;rw [f4] at hj;cases hj;rw [← Nat.add_assoc];exact p4
theorem st_news {w:World} {p:Addr} {n:Nat} {gs:List StI} (h:qM5 w (some p) n gs):∀ j u,(qC4 gs)[j]? = some u→w.cell? (p.add j)=some u:=by
 intro j u e
 have hj:j < gs.length * 5:=by
  rw [← QA3]
  exact (List.getElem?_eq_some_iff.1 e).1
 have h0:0 < n:=by have:=h.1;omega
 obtain ⟨b,off,ea,hc⟩:=h.2 h0
 obtain rfl:p=⟨b,off,none⟩:=Option.some.inj ea
 exact qY7 h j u e
theorem lk_news {w:World} {p:Addr} {n:Nat} {gs:List LkI} (h:qK1 w (some p) n gs):∀ j u,(qA3 gs)[j]? = some u→w.cell? (p.add j)=some u:=by
 intro j u e
 have hj:j < gs.length * 4:=by
  rw [← qF4]
  exact (List.getElem?_eq_some_iff.1 e).1
 have h0:0 < n:=by have:=h.1;omega
 obtain ⟨b,off,ea,hc⟩:=h.2 h0
 obtain rfl:p=⟨b,off,none⟩:=Option.some.inj ea
 exact QK7 h j u e
structure qK0 (r:qH5):Prop where
 s:r.sa=none→r.sn=0∧r.sc=0
 l:r.la=none→r.ln=0∧r.lc=0
def CopyR (r:qH5) (w:World) (d:Ending) (w':World):Prop:=∃ (gs sc gl lc:Nat),d = .returned (.agg #[.int .i64 r.i,.int .i64 r.u,.slice (some ⟨gs,0,none⟩) r.sn sc,.slice (some ⟨gl,0,none⟩) r.ln lc])∧qB1 w' w.heap.size (.slice (some ⟨gs,0,none⟩) r.sn sc) r.ss∧qA4 w' w.heap.size (.slice (some ⟨gl,0,none⟩) r.ln lc) r.ls∧Below w.heap.size w w'
theorem qT7 (r:qH5) (w:World) (hr:qE7 w r) (hN:qK0 r) (hs:r.sn≤1048576) (hl:r.ln≤1048576) :
  Calls Tryz.prog 41 #[.agg #[.int .i64 r.i,.int .i64 r.u,.slice r.sa r.sn r.sc,.slice r.la r.ln r.lc]] w fun d w'=>CopyR r w d w':=by
 obtain ⟨i0,hi,hz0,hz1,hz2⟩:=info_parts Tryz.info43
 obtain ⟨j0,hj,hy0,hy1,hy2⟩:=info_parts Tryz.info98
 have HN:Hid (qK0 r):=hN
 have HZ:Hid (r.ss.length=r.sn∧r.ls.length=r.ln):=⟨hr.said.1,hr.locks.1⟩
 obtain ⟨W,hW⟩:∃ W,W=(w.alloc (.cells #[.int .i64 r.i,.int .i64 r.u,.slice r.sa r.sn r.sc,.slice r.la r.ln r.lc] 33)).alloc (.cells #[.int .i64 0,.int .i64 0,.slice none 0 0,.slice none 0 0] 33):=⟨_,rfl⟩
 have hzW:W.heap.size=w.heap.size+2:=by rw [hW];simp
 have B0:Hid (Below w.heap.size w W):=by show Below _ _ _;rw [hW];exact (zN).alloc (by simp) _
 have X0:qG2 w.heap.size [.int .i64 r.i,.int .i64 r.u,.slice r.sa r.sn r.sc,.slice r.la r.ln r.lc] W:=by
  rw [hW]
  exact qG2.below (qE0 w _ _) (by simp) (zN)
 have Y0:qG2 (w.heap.size+1) [.int .i64 0,.int .i64 0,.slice none 0 0,.slice none 0 0] W:=by
  have e:w.heap.size+1=(w.alloc (.cells #[.int .i64 r.i,.int .i64 r.u,.slice r.sa r.sn r.sc,.slice r.la r.ln r.lc] 33)).heap.size:=by simp
  rw [hW,e]
  exact qE0 _ _ _
 obtain ⟨W1,hW1⟩:∃ W1,W1=W.alloc (.cells #[] 43):=⟨_,rfl⟩
 have A1:Below W.heap.size W W1:=by rw [hW1];exact zN
 have hz1':W1.heap.size=w.heap.size+3:=by rw [hW1];simp;omega
 have X1:Hid (qG2 w.heap.size [.int .i64 r.i,.int .i64 r.u,.slice r.sa r.sn r.sc,.slice r.la r.ln r.lc] W1):=qG2.below X0 (by omega) A1
 have Y1:Hid (qG2 (w.heap.size+1) [.int .i64 0,.int .i64 0,.slice none 0 0,.slice none 0 0] W1):=qG2.below Y0 (by omega) A1
 have B1:Hid (Below w.heap.size w W1):=B0.out.trans (A1.mono (by omega))
 have R1:Hid (qE7 W1 r):=hr.below B1.out
 have O1:Hid (W1.ownsRow (w.heap.size+2) 43 5 (.slice (some ⟨w.heap.size+2,0,none⟩) 0 0) 0 []):=by
  have h0:=World.ownsRow_lit (base:=w.heap.size+2) (e:=43) (size:=5) W #[] 0 (by omega) (Nat.zero_le _) rfl
  rw [hzW,← hW1] at h0
  exact h0
 have u0:=X0.1 0 _ rfl
 have u1:=X0.1 1 _ rfl
 have u2:=X0.1 2 _ rfl
 have u3:=X0.1 3 _ rfl
 have hul:w.heap.size < W.heap.size:=by omega
 have HR:Hid (∀ W,Below w.heap.size w W→qE7 W r):=fun W hb=>hr.below hb
 clear hr hN A1 X0 Y0 B0
 go_enter Tryz.func41,Tryz.ntmps41
 go_upto_region 1 with fail
 rw [← hW]
 clear hW
 have q2:=X1.out.1 2 _ rfl
 have hql:w.heap.size < W1.heap.size:=by omega
 go_wp2_with (first
  | (at_builtin;rw [← hW1];refine qS0 rfl _ _ 30 rfl (w.heap.size+2) 43 i0 (.agg #[.int .i64 0,.int .i64 0,.int .i64 0,.int .i64 0,.int .i64 0]) 5 40 Tryz.underlying30 hi hz0 hz1 hz2 rfl (by decide) (.slice (some ⟨w.heap.size+2,0,none⟩) 0 0) 0 [] rfl O1.out (by simp) r.sa r.sn r.sc (qC4 r.ss) rfl HN.out.s (by rw [QA3,HZ.out.1]) (fun p e=>st_news (by rw [← e];exact R1.out.said)) (qP0 _) (by unfold maxLen;omega) (by omega) (by omega) ?_)
  | fail)
 intro v6 w6 hown6 hgrow6 hnil6
 have E6:qB1 w6 (w.heap.size+2) v6 r.ss:=by
  show World.ownsRow _ _ 43 5 _ r.ss.length (qC4 r.ss)
  rw [HZ.out.1]
  have h7:=hown6
  try simp only [Nat.zero_add,List.nil_append] at h7
  exact h7
 obtain ⟨g6,cap6,hv6⟩:=E6.shape hnil6
 rw [HZ.out.1] at hv6
 subst hv6
 have hg:W1.grownBy w6 (some (w.heap.size+2)):=by first | exact hgrow6 | (rw [hW1];exact hgrow6)
 have X6:=qW2 X1.out (by omega) hg (by omega)
 have Y6:=qW2 Y1.out (by omega) hg (by omega)
 have B6:Below w.heap.size w w6:=B1.out.grown hg (by omega) (fun q e=>by cases e;omega)
 have hz6:w.heap.size+3≤w6.heap.size:=by have:=hg.size;omega
 obtain ⟨cur6,hc6,hg6⟩:=qD4 E6 (g:=g6) rfl
 have hl6:=(Array.getElem?_eq_some_iff.1 hc6).1
 obtain ⟨w7,hw7⟩:∃ w7,w7=w6.setCell ⟨w.heap.size,2,none⟩ (.slice (some ⟨g6,0,none⟩) r.sn cap6):=⟨_,rfl⟩
 have X7:qG2 w.heap.size [.int .i64 r.i,.int .i64 r.u,.slice (some ⟨g6,0,none⟩) r.sn cap6,.slice r.la r.ln r.lc] w7:=by rw [hw7];exact X6.put 2 (by simp) _
 have Y7:qG2 (w.heap.size+1) [.int .i64 0,.int .i64 0,.slice none 0 0,.slice none 0 0] w7:=by rw [hw7];exact Y6.other (by show w.heap.size≠w.heap.size+1;omega) _
 have O7:qB1 w7 (w.heap.size+2) (.slice (some ⟨g6,0,none⟩) r.sn cap6) r.ss:=by
  rw [hw7]
  exact qA2 E6 (fun g e=>Below.heap_setCell _ _ _ _ (by simp [Value.ownBlock] at e;subst e;show g6≠w.heap.size;omega))
 have B7:Below w.heap.size w w7:=by rw [hw7];exact B6.setCell (Nat.le_refl _) _
 have hz7:w7.heap.size=w6.heap.size:=by rw [hw7];simp
 obtain ⟨W8,hW8⟩:∃ W8,W8=w7.alloc (.cells #[] 98):=⟨_,rfl⟩
 have A8:Below w7.heap.size w7 W8:=by rw [hW8];exact zN
 have hz8:W8.heap.size=w7.heap.size+1:=by rw [hW8];simp
 have X8:Hid (qG2 w.heap.size [.int .i64 r.i,.int .i64 r.u,.slice (some ⟨g6,0,none⟩) r.sn cap6,.slice r.la r.ln r.lc] W8):=qG2.below X7 (by omega) A8
 have Y8:Hid (qG2 (w.heap.size+1) [.int .i64 0,.int .i64 0,.slice none 0 0,.slice none 0 0] W8):=qG2.below Y7 (by omega) A8
 have B8:Hid (Below w.heap.size w W8):=B7.trans (A8.mono (by omega))
 have S8:Hid (qB1 W8 (w.heap.size+2) (.slice (some ⟨g6,0,none⟩) r.sn cap6) r.ss):=O7.below A8
 have R8:Hid (qE7 W8 r):=HR.out _ B8.out
 obtain ⟨q8,hq8⟩:∃ q8,w7.heap.size=q8:=⟨_,rfl⟩
 have O8:Hid (W8.ownsRow q8 98 4 (.slice (some ⟨q8,0,none⟩) 0 0) 0 []):=by
  have h0:=World.ownsRow_lit (base:=q8) (e:=98) (size:=4) w7 #[] 0 (by omega) (Nat.zero_le _) rfl
  rw [hq8,← hW8] at h0
  exact h0
 have x2:=X6.1 2 _ rfl
 have f2:=X6.2 2
 have hxl6:w.heap.size < w6.heap.size:=by omega
 clear hown6 hgrow6 hnil6 hg E6 X6 Y6 B6 Y7 O7 B7 A8 hc6 u0 u1 u2 u3 hul q2 hql X1 Y1 B1 R1 O1 hW1 hzW hz1'
 go_upto_region 2 with fail
 rw [← hw7]
 have x3:=X7.1 3 _ rfl
 have hxl7:w.heap.size < w7.heap.size:=by omega
 have y3:=X8.out.1 3 _ rfl
 have hxl8:w.heap.size < W8.heap.size:=by omega
 have hq8':w.heap.size < q8:=by omega
 have hq6:g6 < q8:=by omega
 have hz8':W8.heap.size=q8+1:=by omega
 clear hw7 X7 x2 f2 hxl6 hz7 hz6 hl6
 go_wp2_with (first
  | (at_builtin;rw [← hW8];refine qS0 rfl _ _ 31 rfl q8 98 j0 (.agg #[.int .i64 0,.int .i64 0,.int .i64 0,.int .i64 0]) 4 32 Tryz.underlying31 hj hy0 hy1 hy2 rfl (by decide) (.slice (some ⟨q8,0,none⟩) 0 0) 0 [] rfl O8.out (by simp) r.la r.ln r.lc (qA3 r.ls) rfl HN.out.l (by rw [qF4,HZ.out.2]) (fun p e=>lk_news (by rw [← e];exact R8.out.locks)) (qP1 _) (by unfold maxLen;omega) (by omega) (by omega) ?_)
  | fail)
 intro v9 w9 hown9 hgrow9 hnil9
 have E9:qA4 w9 q8 v9 r.ls:=by
  show World.ownsRow _ _ 98 4 _ r.ls.length (qA3 r.ls)
  rw [HZ.out.2]
  have h7:=hown9
  try simp only [Nat.zero_add,List.nil_append] at h7
  exact h7
 obtain ⟨g9,cap9,hv9⟩:=qT6 hown9 hnil9
 try rw [Nat.zero_add] at hv9
 subst hv9
 have hg:W8.grownBy w9 (some q8):=by first | exact hgrow9 | (rw [hW8];exact hgrow9)
 have X9:=qW2 X8.out hxl8 hg (by omega)
 have Y9:=qW2 Y8.out (by omega) hg (by omega)
 have B9:Below w.heap.size w w9:=B8.out.grown hg (by omega) (fun q e=>by cases e;omega)
 have hz9:q8+1≤w9.heap.size:=by have:=hg.size;omega
 have S9:qB1 w9 (w.heap.size+2) (.slice (some ⟨g6,0,none⟩) r.sn cap6) r.ss:=qA2 S8.out (fun g e=>by
  obtain ⟨cur,hc,_⟩:=qD4 S8.out e
  simp [Value.ownBlock] at e
  exact hg.block g (Array.getElem?_eq_some_iff.1 hc).1 (by intro q;cases q;omega))
 obtain ⟨cur9,hc9,hg9⟩:=qD2 E9 (g:=g9) rfl
 obtain ⟨wa,hwa⟩:∃ wa,wa=w9.setCell ⟨w.heap.size,3,none⟩ (.slice (some ⟨g9,0,none⟩) r.ln cap9):=⟨_,rfl⟩
 have Xa:qG2 w.heap.size [.int .i64 r.i,.int .i64 r.u,.slice (some ⟨g6,0,none⟩) r.sn cap6,.slice (some ⟨g9,0,none⟩) r.ln cap9] wa:=by rw [hwa];exact X9.put 3 (by simp) _
 have Ya:qG2 (w.heap.size+1) [.int .i64 0,.int .i64 0,.slice none 0 0,.slice none 0 0] wa:=by rw [hwa];exact Y9.other (by show w.heap.size≠w.heap.size+1;omega) _
 have Sa:Hid (qB1 wa (w.heap.size+2) (.slice (some ⟨g6,0,none⟩) r.sn cap6) r.ss):=by
  show qB1 _ _ _ _
  rw [hwa]
  exact qA2 S9 (fun g e=>Below.heap_setCell _ _ _ _ (by simp [Value.ownBlock] at e;subst e;show g6≠w.heap.size;omega))
 have La:Hid (qA4 wa q8 (.slice (some ⟨g9,0,none⟩) r.ln cap9) r.ls):=by
  show qA4 _ _ _ _
  rw [hwa]
  exact qA2 E9 (fun g e=>Below.heap_setCell _ _ _ _ (by simp [Value.ownBlock] at e;subst e;show g9≠w.heap.size;omega))
 have Ba:Hid (Below w.heap.size w wa):=by show Below _ _ _;rw [hwa];exact B9.setCell (Nat.le_refl _) _
 have hza:wa.heap.size=w9.heap.size:=by rw [hwa];simp
 have z3:=X9.1 3 _ rfl
 have f3:=X9.2 3
 have hl9:w.heap.size < w9.heap.size:=by omega
 clear hown9 hgrow9 hnil9 hg E9 X9 Y9 B9 S9 hc9 X8 Y8 B8 S8 R8 O8 x3 y3 hxl7 hxl8 hW8
 go_upto_region 3 with fail
 rw [← hwa]
 clear hwa z3 f3
 have a0:=Xa.1 0 _ rfl
 have a1:=Xa.1 1 _ rfl
 have a2:=Xa.1 2 _ rfl
 have a3:=Xa.1 3 _ rfl
 have b0:=Ya.1 0 _ rfl
 have b1:=Ya.1 1 _ rfl
 have b2:=Ya.1 2 _ rfl
 have b3:=Ya.1 3 _ rfl
 have e0:=Ya.2 0
 have e1:=Ya.2 1
 have e2:=Ya.2 2
 have e3:=Ya.2 3
 have hla:w.heap.size+1 < wa.heap.size:=by omega
 have hla0:w.heap.size < wa.heap.size:=by omega
 have hne:w.heap.size≠w.heap.size+1:=by omega
 clear Xa Ya
 go_wp2_with fail
 refine bodyPost_ret (v:=.agg #[.int .i64 r.i,.int .i64 r.u,.slice (some ⟨g6,0,none⟩) r.sn cap6,.slice (some ⟨g9,0,none⟩) r.ln cap9]) (by simp [results,Tryz.results41,go_sem,b0,b1,b2,b3,hla]) rfl ?_
 refine ⟨g6,cap6,g9,cap9,rfl,qC5 (qA2 Sa.out (fun g e=>?_)) (by omega),qA9 (qA2 La.out (fun g e=>?_)) (by omega),(((Ba.out.setCell (Nat.le_succ _) _).setCell (Nat.le_succ _) _).setCell (Nat.le_succ _) _).setCell (Nat.le_succ _) _⟩
 ·simp [Value.ownBlock] at e
  subst e
  rw [Below.heap_setCell _ _ _ _ (by show g6≠w.heap.size+1;omega),Below.heap_setCell _ _ _ _ (by show g6≠w.heap.size+1;omega),Below.heap_setCell _ _ _ _ (by show g6≠w.heap.size+1;omega),Below.heap_setCell _ _ _ _ (by show g6≠w.heap.size+1;omega)]
 ·simp [Value.ownBlock] at e
  subst e
  rw [Below.heap_setCell _ _ _ _ (by show g9≠w.heap.size+1;omega),Below.heap_setCell _ _ _ _ (by show g9≠w.heap.size+1;omega),Below.heap_setCell _ _ _ _ (by show g9≠w.heap.size+1;omega),Below.heap_setCell _ _ _ _ (by show g9≠w.heap.size+1;omega)]

theorem Tryz.gM:Tryz.prog.globalNamed "loop.example/g00338/impl.errManyLocks" = some 0:=by kernel_rfl
theorem Tryz.gMT:(Tryz.prog.globals[0]?).map (·.type)=some 194:=by kernel_rfl
theorem errM_of {text:List UInt8} {r:List (String × DataW Unit)} {W:World} (h:laidMet Tryz.prog (("loop.example/g00338/impl.errManyLocks", .iface "*errors.errorString" (.ptr (.agg [.lit (.string text)])))::r) W):qO1 0 W:=by
 obtain ⟨a,s,hv,_⟩:=laid_sentinel h Tryz.gM Tryz.gMT Tryz.underlying194 Tryz.rowES Tryz.underlying308 Tryz.underlying332 rfl rfl Tryz.underlying9 Tryz.cellsES Tryz.cellsStr
 exact ⟨a,by simpa using World.var?_cell Tryz.gM hv 0⟩
theorem Tryz.et:Tryz.prog.globalNamed "errors.errorType" = some 1:=by kernel_rfl
theorem Tryz.rt:(Tryz.prog.cutTypes.find? (·.1 == "internal/reflectlite.rtype")).map (·.2)=some 278:=by kernel_rfl
theorem Tryz.oneRow:((List.range 344).filter fun t=>Tryz.prog.rowNamed t [101,114,114,111,114])=[194]:=by kernel_rfl
theorem Tryz.sizeTs:Tryz.prog.types.size=344:=by kernel_rfl
theorem handle_of {laid:List (String × DataW Unit)} {W:World} (hm:("errors.errorType", .iface "internal/reflectlite.rtype" (.agg [.ptr (.lit (.string [101,114,114,111,114]))]))∈laid) (h:handlesMet Tryz.prog laid W):qE2 W:=by
 obtain ⟨name,u,ty,e1,e2,e3,e4,e5⟩:=h _ (by
  first
   | exact hm
   | exact List.mem_filter.2 ⟨hm,rfl⟩)
 have en:name=[101,114,114,111,114]:=(Option.some.inj e1).symm
 subst en
 obtain rfl:=Option.some.inj (Tryz.rt.symm.trans e2)
 have hm:ty∈(List.range 344).filter fun t=>Tryz.prog.rowNamed t [101,114,114,111,114]:=List.mem_filter.2 ⟨List.mem_range.2 (by rw [← Tryz.sizeTs];exact e3),e4⟩
 rw [Tryz.oneRow] at hm
 obtain rfl:=List.mem_singleton.1 hm
 have hh:typeHandle Tryz.prog 194 = .pointer (some ⟨2,194,none⟩):=by kernel_rfl
 rw [hh] at e5
 unfold qE2
 simpa using World.var?_cell Tryz.et e5 0
structure P1 (w W:World) (bx:Nat) (c:Int) (a1:Option Addr) (cap1:Nat) (ys:List LkI):Prop where
 bel:Below w.heap.size w W
 x:Box2 W bx (.int .i64 c) (.slice a1 ys.length cap1)
 v:LkV W a1 ys
 lo:w.heap.size≤bx
 hi:bx < W.heap.size
 al:∀ g,a1=some ⟨g,0,none⟩→g < bx
structure P2 (W:World) (gl len:Nat) (zs:List LkI) (gi lb:Nat) (vs:List Int):Prop where
 la:qZ6 W gl zs
 lr:qJ2 W gl len
 ia:IntsAt W gi vs
 ir:qI3 W gi lb
 ll:gl < W.heap.size
 li:gi < W.heap.size
structure P3 (W:World) (B bz hi:Nat) (c:Int) (a2:Option Addr) (cap2:Nat) (ys:List LkI):Prop where
 x:Box2 W bz (.int .i64 c) (.slice a2 ys.length cap2)
 o:qA4 W B (.slice a2 ys.length cap2) ys
 bl:B≤bz
 al:∀ q,(Value.slice a2 ys.length cap2).ownBlock=some q→q < bz

end Go.Proofs.YtlhgjackapdmbaaGreatDoor
