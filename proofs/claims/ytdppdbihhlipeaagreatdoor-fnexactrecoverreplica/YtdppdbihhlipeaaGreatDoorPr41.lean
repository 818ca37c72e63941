/- Contracts. -/
import Derived.Test.YtdppdbihhlipeaaGreatDoorPr39
namespace Go.Proofs.YtdppdbihhlipeaaGreatDoor
set_option maxRecDepth 100000
set_option maxHeartbeats 8000000
open Go.RowKit
set_option linter.unusedVariables false
set_option linter.unusedSimpArgs false

theorem qI9 (a:Option Addr) (n cap:Nat) (cs:List qA4) (w:World) (hn:n<=1048576) (hle:qG0 1048576 cs) (h:qA6 w a n cs) :
  Calls Tryz.prog 80 #[.slice a n cap] w fun e w'=>e = .returned (.int .i64 (qC4 cs))/\Below w.heap.size w w':=by
 have H:Hid (qA6 w a n cs):=h;have HLE:Hid (qG0 1048576 cs):=hle;have HZ:Hid (cs.length=n):=h.len;have hn':(n:Int)<=1048576:=by omega
 clear h hle;by_cases h1:n < 1
 ·have HC:Hid (qC4 cs=2):=by show qC4 cs=2;unfold qC4;rw [if_pos (.inl (by rw [HZ.out];exact h1))]
  have hn0:n=0:=by omega
  subst hn0;rw [HC.out];go_enter Tryz.func80,Tryz.ntmps80;go_wp2;go_ret;exact ⟨rfl,Below.refl _ _⟩
 ·by_cases h8:8 < n
  ·have HC:Hid (qC4 cs=2):=by show qC4 cs=2;unfold qC4;rw [if_pos (.inr (by rw [HZ.out];exact h8))]
   have h1':¬ ((n:Int) < 1):=by omega
   have h8':(8:Int) < (n:Int):=by omega
   rw [HC.out];go_enter Tryz.func80,Tryz.ntmps80;go_wp2;go_ret;exact ⟨rfl,Below.refl _ _⟩
  ·have h1':¬ ((n:Int) < 1):=by omega
   have h8':¬ ((8:Int) < (n:Int)):=by omega
   have HC:Hid (qC4 cs=qJ2 cs n):=by show qC4 cs=_;unfold qC4;rw [if_neg (by rw [HZ.out];omega),HZ.out]
   obtain ⟨b0,off0,c0,rfl,hc0,hat0,_⟩:=H.out.at (show 0 < n by omega)
   have HC0:Hid ((cs[0]?.getD default).f=c0.f):=by show (cs[0]?.getD default).f=_;rw [hc0];rfl
   have HAT0:Hid (qI4 w b0 off0 c0):=by have:=hat0;rw [Nat.zero_mul,Nat.add_zero] at this;exact this
   clear hc0 hat0;rw [HC.out];go_enter Tryz.func80,Tryz.ntmps80;go_wp2;go_loopw [16] (fun i wr=>∃ k:Nat,k<=n/\i = .int .i64 (k:Int)/\qJ2 cs k=0/\Below w.heap.size w wr) (fun i _=>n - (intOf i).toNat)
   case atStart=>exact ⟨0,Nat.zero_le _,rfl,rfl,Below.refl _ _⟩
   case round =>
    obtain ⟨k,hk,rfl,hz,hnx⟩:=hrel;have HK0:Hid (qJ2 cs k=0):=hz;clear hz;by_cases hlt:k < n
    ·obtain ⟨b,off,c,e,hc,hat,hin⟩:=H.out.at hlt
     cases e;have hlt':(k:Int) < (n:Int):=by omega
     have hA:=hat.below hnx;have hl:=hA.lt;obtain ⟨u0,u1,u2,u3,u4⟩:=hA;have HN:Hid (qJ2 cs (k+1)=if qU3 c=0 then (if c.f=c0.f then 0 else 1) else qU3 c):=by show qJ2 cs (k+1)=_;rw [QA0 hc HK0.out,HC0.out]
     obtain ⟨V,hV⟩:∃ V,V=wr.alloc (.cells #[.int .i64 c.e,.int .i64 c.f,.slice c.ra c.rn c.rc,.slice c.fa c.fn c.fc,.slice c.ca c.cn c.cc] 71):=⟨_,rfl⟩;have BV:Below wr.heap.size wr V:=by rw [hV];exact zN
     have BW:Below w.heap.size w V:=hnx.trans (BV.mono hnx.size);have KV:Hid (qQ0 V wr.heap.size c):=by rw [hV];exact qQ0.new wr c _
     obtain ⟨q,hq⟩:∃ q,qU3 c=q:=⟨_,rfl⟩;rw [hq] at HN;have HQ:Hid (Calls Tryz.prog 105 #[.agg #[.int .i64 c.e,.int .i64 c.f,.slice c.ra c.rn c.rc,.slice c.fa c.fn c.fc,.slice c.ca c.cn c.cc]] V fun e w'=>e = .returned (.int .i64 q)/\Below V.heap.size V w'):=by rw [<- hq];exact qV4 c V (HLE.out.le k c hc) (HLE.out.rc k c hc).1 (HLE.out.rc k c hc).2 (hin.below BW)
     clear hq hc hat hin;go_wp2_with fail
     rw [<- hV];clear hV u0 u1 u2 u3 u4;refine HQ.out.mono ?_;rintro e w1 ⟨rfl,hb1⟩;have B1:Below w.heap.size w w1:=BW.trans (hb1.mono BW.size);by_cases q0:q=0
     ·have qb:(q != 0)=false:=by simp [q0]
      rw [if_pos q0] at HN;have hK:=KV.out.below hb1;have hl1:=hK.lt;obtain ⟨x0,x1,_⟩:=hK;have hB1:=HAT0.out.below B1;have hl0:=hB1.lt;obtain ⟨y0,y1,_⟩:=hB1;by_cases hf:c.f=c0.f
      ·have fb:(c.f != c0.f)=false:=by simp [hf]
       rw [if_pos hf] at HN;clear q0 hf;go_wp2;go_quiet (fail)
       go_wp2;exact ⟨⟨k+1,by omega,by go_num,HN.out,below_drewN B1 _⟩,by simp [intOf];omega⟩
      ·have fb:(c.f != c0.f)=true:=by simp [hf]
       rw [if_neg hf] at HN;have HE:Hid (qJ2 cs n=1):=qR2 cs (k+1) n 1 (by omega) HN.out (by omega);clear q0 hf;go_wp2;go_quiet (fail)
       go_wp2;go_ret;exact ⟨by rw [HE.out];rfl,below_drewN B1 _⟩
     ·have qb:(q != 0)=true:=by simp [q0]
      rw [if_neg q0] at HN;have HE:Hid (qJ2 cs n=q):=qR2 cs (k+1) n q q0 HN.out (by omega);clear q0;go_wp2;go_ret;exact ⟨by rw [HE.out];rfl,B1⟩
    ·have hkn:k=n:=by omega
     have hlt':¬ ((k:Int) < (n:Int)):=by omega
     have HE:Hid (qJ2 cs n=0):=by rw [<- hkn];exact HK0.out
     clear hkn;go_wp2;go_ret;exact ⟨by rw [HE.out];rfl,hnx⟩

theorem QR2 (i u:Int) (sa sa':Option Addr) (n c c':Nat) (ss:List StI) (la la':Option Addr) (m d d':Nat) (ls:List LkI) (w:World) (hn:n<=1048576) (hm:m<=1048576) (h1:qN8 w sa n ss) (h2:qN8 w sa' n ss) (h3:qK8 w la m ls) (h4:qK8 w la' m ls) :
  Calls Tryz.prog 12 #[.agg #[.int .i64 i,.int .i64 u,.slice sa n c,.slice la m d],.agg #[.int .i64 i,.int .i64 u,.slice sa' n c',.slice la' m d']] w fun e w'=>e = .returned (.bool true)/\Below w.heap.size w w':=by
 obtain ⟨V,hV⟩:∃ V,V=(w.alloc (.cells #[.int .i64 i,.int .i64 u,.slice sa n c,.slice la m d] 36)).alloc (.cells #[.int .i64 i,.int .i64 u,.slice sa' n c',.slice la' m d'] 36):=⟨_,rfl⟩;have B0:Below w.heap.size w V:=by rw [hV];exact (zN).alloc (by simp) _
 have x2:V.cell? ⟨w.heap.size,3,none⟩=some (.slice la m d):=by rw [hV];simp
 have y2:V.cell? ⟨w.heap.size+1,3,none⟩=some (.slice la' m d'):=by rw [hV];simp
 have hz:V.heap.size=w.heap.size+1+1:=by rw [hV];simp
 have HS:Hid (Calls Tryz.prog 36 #[.slice sa n c,.slice sa' n c'] V fun e w'=>e = .returned (.bool true)/\Below V.heap.size V w'):=QF9 sa sa' n c c' ss V hn (h1.below B0) (h2.below B0);have HL:Hid (∀ w2,Below w.heap.size w w2->Calls Tryz.prog 37 #[.slice la m d,.slice la' m d'] w2 fun e w'=>e = .returned (.bool true)/\Below w2.heap.size w2 w'):=fun w2 hb=>qAy la la' m d d' ls w2 hm (h3.below hb) (h4.below hb)
 have XX:Hid (V.cell? ⟨w.heap.size,3,none⟩=some (.slice la m d)/\V.cell? ⟨w.heap.size+1,3,none⟩=some (.slice la' m d')/\V.heap.size=w.heap.size+1+1):=⟨x2,y2,hz⟩;clear h1 h2 h3 h4 x2 y2 hz;go_enter Tryz.func12,Tryz.ntmps12;go_wp2_with fail
 rw [<- hV];clear hV;refine HS.out.mono ?_;rintro e w1 ⟨rfl,hb1⟩;obtain ⟨x3,y3,hz⟩:=XX.out;have x3:=(hb1.cell (p:=⟨w.heap.size,3,none⟩) (by show w.heap.size < V.heap.size;omega)).trans x3;have y3:=(hb1.cell (p:=⟨w.heap.size+1,3,none⟩) (by show w.heap.size+1 < V.heap.size;omega)).trans y3;have B1:=B0.trans (hb1.mono B0.size);have l1:w.heap.size < w1.heap.size:=by have:=hb1.size;omega
 have l2:w.heap.size+1 < w1.heap.size:=by have:=hb1.size;omega
 clear hz hb1;go_wp2_with fail
 refine (HL.out _ B1).mono ?_;rintro e w2 ⟨rfl,hb2⟩;clear x3 y3 l1 l2;go_wp2;go_ret;exact ⟨rfl,B1.trans (hb2.mono B1.size)⟩
theorem qY9 (k i u:Int) (sa sa':Option Addr) (n c c':Nat) (ss:List StI) (la la':Option Addr) (m d d':Nat) (ls:List LkI) (w:World) (hn:n<=1048576) (hm:m<=1048576) (h1:qN8 w sa n ss) (h2:qN8 w sa' n ss) (h3:qK8 w la m ls) (h4:qK8 w la' m ls) :
  Calls Tryz.prog 21 #[.agg #[.int .i64 k,.int .i64 i,.int .i64 u,.slice sa n c,.slice la m d],.agg #[.int .i64 k,.int .i64 i,.int .i64 u,.slice sa' n c',.slice la' m d']] w fun e w'=>e = .returned (.bool true)/\Below w.heap.size w w':=by
 obtain ⟨V,hV⟩:∃ V,V=(w.alloc (.cells #[.int .i64 k,.int .i64 i,.int .i64 u,.slice sa n c,.slice la m d] 48)).alloc (.cells #[.int .i64 k,.int .i64 i,.int .i64 u,.slice sa' n c',.slice la' m d'] 48):=⟨_,rfl⟩;have B0:Below w.heap.size w V:=by rw [hV];exact (zN).alloc (by simp) _
 have HS:Hid (Calls Tryz.prog 12 #[.agg #[.int .i64 i,.int .i64 u,.slice sa n c,.slice la m d],.agg #[.int .i64 i,.int .i64 u,.slice sa' n c',.slice la' m d']] V fun e w'=>e = .returned (.bool true)/\Below V.heap.size V w'):=QR2 i u sa sa' n c c' ss la la' m d d' ls V hn hm (h1.below B0) (h2.below B0) (h3.below B0) (h4.below B0);clear h1 h2 h3 h4;go_enter Tryz.func21,Tryz.ntmps21;go_wp2_with fail
 rw [<- hV];clear hV;refine HS.out.mono ?_;rintro e w1 ⟨rfl,hb1⟩;go_wp2;go_ret;exact ⟨rfl,B0.trans (hb1.mono B0.size)⟩

theorem qR4 {P:Program} {w:World} {ops:Array Oper} {rest:List Oper} {o:Oper} {a:Act} {Q:Exit->Act->World->Prop} (hgd:o.guard=none) (s x:Operand) (t:TypeId)
  (ho:o.op = .call { callee:=.builtin .append,args:=#[s,x],argTypes:=#[t,t] })
  (base:Nat) (e:TypeId) (i:TypeInfo) (z:Value) (size bytes:Nat) (ht:P.underlying t=some (.slice e)) (hi:P.info? e=some i) (hz:i.zero=some z)
  (hsize:i.size=size) (hby:i.bytes=bytes) (hzs:z.cells.size=size) (hsz:0 < size)
  (v:Value) (n:Nat) (xs:List Value) (hs:a.eval s=v) (hown:w.ownsRow base e size v n xs) (hv:v ≠ .slice none 0 0)
  (ad:Option Addr) (m c:Nat) (news:List Value) (hx:a.eval x = .slice ad m c) (hnil:ad=none->m=0/\c=0) (hl:news.length=m * size) (hnews:∀ p,ad=some p->∀ j u,news[j]? = some u->w.cell? (p.add j)=some u) (h1:∀ u∈news,u.oneCell'=true)
  (h63:n+m<=maxLen) (hbytes:(n+m) * bytes<=140737488355328) (hbase:base<=w.heap.size)
  (h:∀ v' w',w'.ownsRow base e size v' (n+m) (xs++news)->w.grownBy w' v.ownBlock->v' ≠ .slice none 0 0->wpList P ops Q rest (a.put o.dst v') w'):wpList P ops Q (o::rest) a w:=by
 cases ad with
 | none =>
  obtain ⟨rfl,rfl⟩:=hnil rfl;obtain rfl:news=[]:=List.length_eq_zero_iff.1 (by rw [hl];omega);refine wpList_append_own_none hgd s x t ho base e i size ht hi v n xs hs hown hx ?_;exact h v w (by simpa using hown) (qR1 _ _) hv
 | some p=>exact wpList_append_own w hgd s x t ho base e i z size bytes ht hi hz hsize hby hzs hsz v n xs hs hown p m c news hx hl (hnews p rfl) h1 h63 hbytes hbase (fun v' w' a1 a2 a3=>h v' w' a1 a2 (fun q=>hv (a3.1 q).1))
theorem qV7 {b B:Nat} {vs:List Value} {W W':World} (h:qH0 b vs W) (hb:b < W.heap.size) (hg:W.grownBy W' (some B)) (hne:b≠B):qH0 b vs W':=by
 have k:=hg.block b hb (by simpa using hne);exact ⟨fun j v e=>(World.cell?_of_block (w:=W) (w':=W') (a:=⟨b,j,none⟩) k).trans (h.1 j v e),fun j=>(World.frozen?_of_block (w:=W) (w':=W') (a:=⟨b,j,none⟩) k).trans (h.2 j)⟩
theorem qY6 {w:World} {b o n:Nat} {gs:List StI} (h:qN8 w (some ⟨b,o,none⟩) n gs):∀ j u,(qC3 gs)[j]? = some u->w.cell? ((⟨b,o,none⟩:Addr).add j)=some u:=by
 intro j u hj
 have hjl:j < gs.length * 5:=by
  by_cases q:j < gs.length * 5
  ·exact q
  ·rw [List.getElem?_eq_none (by rw [qZ8];omega)] at hj;cases hj
 have hk:j / 5 < gs.length:=by omega
 obtain ⟨b',o',e',hc⟩:=h.2 (by have:=h.1;omega);cases e';have hp:=hc (j / 5) _ (List.getElem?_eq_getElem hk);obtain ⟨f0,f1,f2,f3,f4⟩:=QO8 gs (j / 5) _ (List.getElem?_eq_getElem hk);obtain ⟨p0,p1,p2,p3,p4⟩:=hp;rw [Go.WideShapes.add_plain];have hr:j=j / 5 * 5\/j=j / 5 * 5+1\/j=j / 5 * 5+2\/j=j / 5 * 5+3\/j=j / 5 * 5+4:=by omega
 rcases hr with e | e | e | e | e
 ·rw [e] at hj ⊢;rw [f0] at hj;cases hj;exact p0
 ·rw [e] at hj ⊢;rw [f1] at hj;cases hj;rw [<- Nat.add_assoc];exact p1
 ·rw [e] at hj ⊢;rw [f2] at hj;cases hj;rw [<- Nat.add_assoc];exact p2
 ·rw [e] at hj ⊢;rw [f3] at hj;cases hj;rw [<- Nat.add_assoc];exact p3
 ·rw [e] at hj ⊢;rw [f4] at hj;cases hj;rw [<- Nat.add_assoc];exact p4
theorem qKO {w:World} {p:Addr} {n:Nat} {gs:List StI} (h:qN8 w (some p) n gs):∀ j u,(qC3 gs)[j]? = some u->w.cell? (p.add j)=some u:=by
 intro j u e
 have hj:j < gs.length * 5:=by
  rw [<- qZ8];exact (List.getElem?_eq_some_iff.1 e).1
 have h0:0 < n:=by have:=h.1;omega
 obtain ⟨b,off,ea,hc⟩:=h.2 h0;obtain rfl:p=⟨b,off,none⟩:=Option.some.inj ea;exact qY6 h j u e
theorem qKk {w:World} {p:Addr} {n:Nat} {gs:List LkI} (h:qK8 w (some p) n gs):∀ j u,(qA3 gs)[j]? = some u->w.cell? (p.add j)=some u:=by
 intro j u e
 have hj:j < gs.length * 4:=by
  rw [<- qF4];exact (List.getElem?_eq_some_iff.1 e).1
 have h0:0 < n:=by have:=h.1;omega
 obtain ⟨b,off,ea,hc⟩:=h.2 h0;obtain rfl:p=⟨b,off,none⟩:=Option.some.inj ea;exact QM3 h j u e
structure qJ7 (r:qL4):Prop where
 s:r.sa=none->r.sn=0/\r.sc=0
 l:r.la=none->r.ln=0/\r.lc=0
def qNC (r:qL4) (w:World) (d:Ending) (w':World):Prop:=∃ (gs sc gl lc:Nat),d = .returned (.agg #[.int .i64 r.i,.int .i64 r.u,.slice (some ⟨gs,0,none⟩) r.sn sc,.slice (some ⟨gl,0,none⟩) r.ln lc])/\qB2 w' w.heap.size (.slice (some ⟨gs,0,none⟩) r.sn sc) r.ss/\qA7 w' w.heap.size (.slice (some ⟨gl,0,none⟩) r.ln lc) r.ls/\Below w.heap.size w w'
theorem qT0 (r:qL4) (w:World) (hr:qG1 w r) (hN:qJ7 r) (hs:r.sn<=1048576) (hl:r.ln<=1048576) :
  Calls Tryz.prog 74 #[.agg #[.int .i64 r.i,.int .i64 r.u,.slice r.sa r.sn r.sc,.slice r.la r.ln r.lc]] w fun d w'=>qNC r w d w':=by
 obtain ⟨i0,hi,hz0,hz1,hz2⟩:=info_parts Tryz.info85;obtain ⟨j0,hj,hy0,hy1,hy2⟩:=info_parts Tryz.info103;have HN:Hid (qJ7 r):=hN;have HZ:Hid (r.ss.length=r.sn/\r.ls.length=r.ln):=⟨hr.said.1,hr.locks.1⟩;obtain ⟨W,hW⟩:∃ W,W=(w.alloc (.cells #[.int .i64 r.i,.int .i64 r.u,.slice r.sa r.sn r.sc,.slice r.la r.ln r.lc] 36)).alloc (.cells #[.int .i64 0,.int .i64 0,.slice none 0 0,.slice none 0 0] 36):=⟨_,rfl⟩;have hzW:W.heap.size=w.heap.size+2:=by rw [hW];simp
 have B0:Hid (Below w.heap.size w W):=by show Below _ _ _;rw [hW];exact (zN).alloc (by simp) _
 have X0:qH0 w.heap.size [.int .i64 r.i,.int .i64 r.u,.slice r.sa r.sn r.sc,.slice r.la r.ln r.lc] W:=by
  rw [hW];exact qH0.below (qG7 w _ _) (by simp) (zN)
 have Y0:qH0 (w.heap.size+1) [.int .i64 0,.int .i64 0,.slice none 0 0,.slice none 0 0] W:=by
  have e:w.heap.size+1=(w.alloc (.cells #[.int .i64 r.i,.int .i64 r.u,.slice r.sa r.sn r.sc,.slice r.la r.ln r.lc] 36)).heap.size:=by simp
  rw [hW,e];exact qG7 _ _ _
 obtain ⟨W1,hW1⟩:∃ W1,W1=W.alloc (.cells #[] 85):=⟨_,rfl⟩;have A1:Below W.heap.size W W1:=by rw [hW1];exact zN
 have hz1':W1.heap.size=w.heap.size+3:=by rw [hW1];simp;omega
 have X1:Hid (qH0 w.heap.size [.int .i64 r.i,.int .i64 r.u,.slice r.sa r.sn r.sc,.slice r.la r.ln r.lc] W1):=qH0.below X0 (by omega) A1;have Y1:Hid (qH0 (w.heap.size+1) [.int .i64 0,.int .i64 0,.slice none 0 0,.slice none 0 0] W1):=qH0.below Y0 (by omega) A1;have B1:Hid (Below w.heap.size w W1):=B0.out.trans (A1.mono (by omega));have R1:Hid (qG1 W1 r):=hr.below B1.out
 have O1:Hid (W1.ownsRow (w.heap.size+2) 85 5 (.slice (some ⟨w.heap.size+2,0,none⟩) 0 0) 0 []):=by
  have h0:=World.ownsRow_lit (base:=w.heap.size+2) (e:=85) (size:=5) W #[] 0 (by omega) (Nat.zero_le _) rfl;rw [hzW,<- hW1] at h0;exact h0
 have u0:=X0.1 0 _ rfl;have u1:=X0.1 1 _ rfl;have u2:=X0.1 2 _ rfl;have u3:=X0.1 3 _ rfl;have hul:w.heap.size < W.heap.size:=by omega
 have HR:Hid (∀ W,Below w.heap.size w W->qG1 W r):=fun W hb=>hr.below hb
 clear hr hN A1 X0 Y0 B0;go_enter Tryz.func74,Tryz.ntmps74;go_upto_region 1 with fail
 rw [<- hW];clear hW;have q2:=X1.out.1 2 _ rfl;have hql:w.heap.size < W1.heap.size:=by omega
 go_wp2_with (first
  | (at_builtin;rw [<- hW1];refine qR4 rfl _ _ 33 rfl (w.heap.size+2) 85 i0 (.agg #[.int .i64 0,.int .i64 0,.int .i64 0,.int .i64 0,.int .i64 0]) 5 40 Tryz.underlying33 hi hz0 hz1 hz2 rfl (by decide) (.slice (some ⟨w.heap.size+2,0,none⟩) 0 0) 0 [] rfl O1.out (by simp) r.sa r.sn r.sc (qC3 r.ss) rfl HN.out.s (by rw [qZ8,HZ.out.1]) (fun p e=>qKO (by rw [<- e];exact R1.out.said)) (qO3 _) (by unfold maxLen;omega) (by omega) (by omega) ?_)
  | fail)
 intro v6 w6 hown6 hgrow6 hnil6
 have E6:qB2 w6 (w.heap.size+2) v6 r.ss:=by
  show World.ownsRow _ _ 85 5 _ r.ss.length (qC3 r.ss)
  rw [HZ.out.1];have h7:=hown6;try simp only [Nat.zero_add,List.nil_append] at h7
  exact h7
 obtain ⟨g6,cap6,hv6⟩:=E6.shape hnil6;rw [HZ.out.1] at hv6;subst hv6;have hg:W1.grownBy w6 (some (w.heap.size+2)):=by first | exact hgrow6 | (rw [hW1];exact hgrow6)
 have X6:=qV7 X1.out (by omega) hg (by omega);have Y6:=qV7 Y1.out (by omega) hg (by omega);have B6:Below w.heap.size w w6:=B1.out.grown hg (by omega) (fun q e=>by cases e;omega);have hz6:w.heap.size+3<=w6.heap.size:=by have:=hg.size;omega
 obtain ⟨cur6,hc6,hg6⟩:=qC5 E6 (g:=g6) rfl;have hl6:=(Array.getElem?_eq_some_iff.1 hc6).1;obtain ⟨w7,hw7⟩:∃ w7,w7=w6.setCell ⟨w.heap.size,2,none⟩ (.slice (some ⟨g6,0,none⟩) r.sn cap6):=⟨_,rfl⟩;have X7:qH0 w.heap.size [.int .i64 r.i,.int .i64 r.u,.slice (some ⟨g6,0,none⟩) r.sn cap6,.slice r.la r.ln r.lc] w7:=by rw [hw7];exact X6.put 2 (by simp) _
 have Y7:qH0 (w.heap.size+1) [.int .i64 0,.int .i64 0,.slice none 0 0,.slice none 0 0] w7:=by rw [hw7];exact Y6.other (by show w.heap.size≠w.heap.size+1;omega) _
 have O7:qB2 w7 (w.heap.size+2) (.slice (some ⟨g6,0,none⟩) r.sn cap6) r.ss:=by
  rw [hw7];exact qA0 E6 (fun g e=>Below.heap_setCell _ _ _ _ (by simp [Value.ownBlock] at e;subst e;show g6≠w.heap.size;omega))
 have B7:Below w.heap.size w w7:=by rw [hw7];exact B6.setCell (Nat.le_refl _) _
 have hz7:w7.heap.size=w6.heap.size:=by rw [hw7];simp
 obtain ⟨W8,hW8⟩:∃ W8,W8=w7.alloc (.cells #[] 103):=⟨_,rfl⟩;have A8:Below w7.heap.size w7 W8:=by rw [hW8];exact zN
 have hz8:W8.heap.size=w7.heap.size+1:=by rw [hW8];simp
 have X8:Hid (qH0 w.heap.size [.int .i64 r.i,.int .i64 r.u,.slice (some ⟨g6,0,none⟩) r.sn cap6,.slice r.la r.ln r.lc] W8):=qH0.below X7 (by omega) A8;have Y8:Hid (qH0 (w.heap.size+1) [.int .i64 0,.int .i64 0,.slice none 0 0,.slice none 0 0] W8):=qH0.below Y7 (by omega) A8;have B8:Hid (Below w.heap.size w W8):=B7.trans (A8.mono (by omega));have S8:Hid (qB2 W8 (w.heap.size+2) (.slice (some ⟨g6,0,none⟩) r.sn cap6) r.ss):=O7.below A8;have R8:Hid (qG1 W8 r):=HR.out _ B8.out;obtain ⟨q8,hq8⟩:∃ q8,w7.heap.size=q8:=⟨_,rfl⟩
 have O8:Hid (W8.ownsRow q8 103 4 (.slice (some ⟨q8,0,none⟩) 0 0) 0 []):=by
  have h0:=World.ownsRow_lit (base:=q8) (e:=103) (size:=4) w7 #[] 0 (by omega) (Nat.zero_le _) rfl;rw [hq8,<- hW8] at h0;exact h0
 have x2:=X6.1 2 _ rfl;have f2:=X6.2 2;have hxl6:w.heap.size < w6.heap.size:=by omega
 clear hown6 hgrow6 hnil6 hg E6 X6 Y6 B6 Y7 O7 B7 A8 hc6 u0 u1 u2 u3 hul q2 hql X1 Y1 B1 R1 O1 hW1 hzW hz1';go_upto_region 2 with fail
 rw [<- hw7];have x3:=X7.1 3 _ rfl;have hxl7:w.heap.size < w7.heap.size:=by omega
 have y3:=X8.out.1 3 _ rfl;have hxl8:w.heap.size < W8.heap.size:=by omega
 have hq8':w.heap.size < q8:=by omega
 have hq6:g6 < q8:=by omega
 have hz8':W8.heap.size=q8+1:=by omega
 clear hw7 X7 x2 f2 hxl6 hz7 hz6 hl6
 go_wp2_with (first
  | (at_builtin;rw [<- hW8];refine qR4 rfl _ _ 34 rfl q8 103 j0 (.agg #[.int .i64 0,.int .i64 0,.int .i64 0,.int .i64 0]) 4 32 Tryz.underlying34 hj hy0 hy1 hy2 rfl (by decide) (.slice (some ⟨q8,0,none⟩) 0 0) 0 [] rfl O8.out (by simp) r.la r.ln r.lc (qA3 r.ls) rfl HN.out.l (by rw [qF4,HZ.out.2]) (fun p e=>qKk (by rw [<- e];exact R8.out.locks)) (qO4 _) (by unfold maxLen;omega) (by omega) (by omega) ?_)
  | fail)
 intro v9 w9 hown9 hgrow9 hnil9
 have E9:qA7 w9 q8 v9 r.ls:=by
  show World.ownsRow _ _ 103 4 _ r.ls.length (qA3 r.ls)
  rw [HZ.out.2];have h7:=hown9;try simp only [Nat.zero_add,List.nil_append] at h7
  exact h7
 obtain ⟨g9,cap9,hv9⟩:=qS9 hown9 hnil9;try rw [Nat.zero_add] at hv9
 subst hv9;have hg:W8.grownBy w9 (some q8):=by first | exact hgrow9 | (rw [hW8];exact hgrow9)
 have X9:=qV7 X8.out hxl8 hg (by omega);have Y9:=qV7 Y8.out (by omega) hg (by omega);have B9:Below w.heap.size w w9:=B8.out.grown hg (by omega) (fun q e=>by cases e;omega);have hz9:q8+1<=w9.heap.size:=by have:=hg.size;omega
 have S9:qB2 w9 (w.heap.size+2) (.slice (some ⟨g6,0,none⟩) r.sn cap6) r.ss:=qA0 S8.out (fun g e=>by
  obtain ⟨cur,hc,_⟩:=qC5 S8.out e;simp [Value.ownBlock] at e;exact hg.block g (Array.getElem?_eq_some_iff.1 hc).1 (by intro q;cases q;omega))
 obtain ⟨cur9,hc9,hg9⟩:=qC6 E9 (g:=g9) rfl;obtain ⟨wa,hwa⟩:∃ wa,wa=w9.setCell ⟨w.heap.size,3,none⟩ (.slice (some ⟨g9,0,none⟩) r.ln cap9):=⟨_,rfl⟩;have Xa:qH0 w.heap.size [.int .i64 r.i,.int .i64 r.u,.slice (some ⟨g6,0,none⟩) r.sn cap6,.slice (some ⟨g9,0,none⟩) r.ln cap9] wa:=by rw [hwa];exact X9.put 3 (by simp) _
 have Ya:qH0 (w.heap.size+1) [.int .i64 0,.int .i64 0,.slice none 0 0,.slice none 0 0] wa:=by rw [hwa];exact Y9.other (by show w.heap.size≠w.heap.size+1;omega) _
 have Sa:Hid (qB2 wa (w.heap.size+2) (.slice (some ⟨g6,0,none⟩) r.sn cap6) r.ss):=by
  show qB2 _ _ _ _
  rw [hwa];exact qA0 S9 (fun g e=>Below.heap_setCell _ _ _ _ (by simp [Value.ownBlock] at e;subst e;show g6≠w.heap.size;omega))
 have La:Hid (qA7 wa q8 (.slice (some ⟨g9,0,none⟩) r.ln cap9) r.ls):=by
  show qA7 _ _ _ _
  rw [hwa];exact qA0 E9 (fun g e=>Below.heap_setCell _ _ _ _ (by simp [Value.ownBlock] at e;subst e;show g9≠w.heap.size;omega))
 have Ba:Hid (Below w.heap.size w wa):=by show Below _ _ _;rw [hwa];exact B9.setCell (Nat.le_refl _) _
 have hza:wa.heap.size=w9.heap.size:=by rw [hwa];simp
 have z3:=X9.1 3 _ rfl;have f3:=X9.2 3;have hl9:w.heap.size < w9.heap.size:=by omega
 clear hown9 hgrow9 hnil9 hg E9 X9 Y9 B9 S9 hc9 X8 Y8 B8 S8 R8 O8 x3 y3 hxl7 hxl8 hW8;go_upto_region 3 with fail
 rw [<- hwa];clear hwa z3 f3;have a0:=Xa.1 0 _ rfl;have a1:=Xa.1 1 _ rfl;have a2:=Xa.1 2 _ rfl;have a3:=Xa.1 3 _ rfl;have b0:=Ya.1 0 _ rfl;have b1:=Ya.1 1 _ rfl;have b2:=Ya.1 2 _ rfl;have b3:=Ya.1 3 _ rfl;have e0:=Ya.2 0;have e1:=Ya.2 1;have e2:=Ya.2 2;have e3:=Ya.2 3;have hla:w.heap.size+1 < wa.heap.size:=by omega
 have hla0:w.heap.size < wa.heap.size:=by omega
 have hne:w.heap.size≠w.heap.size+1:=by omega
 clear Xa Ya;go_wp2_with fail
 refine bodyPost_ret (v:=.agg #[.int .i64 r.i,.int .i64 r.u,.slice (some ⟨g6,0,none⟩) r.sn cap6,.slice (some ⟨g9,0,none⟩) r.ln cap9]) (by simp [results,Tryz.results74,go_sem,b0,b1,b2,b3,hla]) rfl ?_;refine ⟨g6,cap6,g9,cap9,rfl,qC0 (qA0 Sa.out (fun g e=>?_)) (by omega),qB0 (qA0 La.out (fun g e=>?_)) (by omega),(((Ba.out.setCell (Nat.le_succ _) _).setCell (Nat.le_succ _) _).setCell (Nat.le_succ _) _).setCell (Nat.le_succ _) _⟩
 ·simp [Value.ownBlock] at e;subst e;rw [Below.heap_setCell _ _ _ _ (by show g6≠w.heap.size+1;omega),Below.heap_setCell _ _ _ _ (by show g6≠w.heap.size+1;omega),Below.heap_setCell _ _ _ _ (by show g6≠w.heap.size+1;omega),Below.heap_setCell _ _ _ _ (by show g6≠w.heap.size+1;omega)]
 ·simp [Value.ownBlock] at e;subst e;rw [Below.heap_setCell _ _ _ _ (by show g9≠w.heap.size+1;omega),Below.heap_setCell _ _ _ _ (by show g9≠w.heap.size+1;omega),Below.heap_setCell _ _ _ _ (by show g9≠w.heap.size+1;omega),Below.heap_setCell _ _ _ _ (by show g9≠w.heap.size+1;omega)]

theorem QP1 {m m':Nat} {c:qA4} (h:qE0 m c) (hm:m<=m'):qE0 m' c:=by
 obtain ⟨a1,a2,a3,a4⟩:=h;exact ⟨by omega,by omega,fun k x e=>Nat.le_trans (a3 k x e) hm,by omega⟩
theorem qBb (a:Option Addr) (n cap:Nat) (fs:List qA4) (l:Int) (w:World) (hn:n<=maxLen) (hle:∀ (k:Nat) c,fs[k]? = some c->qE0 maxLen c) (h0:0<=l) (h1:l<=1048576) (h:qA6 w a n fs) :
  Calls Tryz.prog 6 #[.slice a n cap,.int .i64 l] w fun e w'=>(∃ r:Int,e = .returned (.int .i64 r)/\r<=l/\(0<=r->(n:Int)<=l/\(∀ (k:Nat) c,fs[k]? = some c->qE0 l.toNat c)))/\Below w.heap.size w w':=by
 have H:Hid (qA6 w a n fs):=h;have HZ:Hid (fs.length=n):=h.len;have HLE:Hid (∀ (k:Nat) c,fs[k]? = some c->qE0 maxLen c):=hle;have hn':(n:Int)<=9223372036854775807:=by unfold maxLen at hn;omega
 clear h hle hn;by_cases hlt:(n:Int)<=l
 ·go_enter Tryz.func6,Tryz.ntmps6;go_wp2
  go_loopw [1,5] (fun q i wr=>∃ (k:Nat) (r:Int),k<=n/\i = .int .i64 (k:Int)/\q = .int .i64 r/\0<=r/\r<=l/\(∀ j x,j < k->fs[j]? = some x->qE0 l.toNat x)/\Below w.heap.size w wr)
   (fun _ i _=>n - (intOf i).toNat)
  case atStart=>exact ⟨0,_,Nat.zero_le _,rfl,rfl,by omega,by omega,fun j x hj=>by omega,Below.refl _ _⟩
  case round =>
   obtain ⟨k,r,hk,rfl,rfl,hr0,hr1,hok,hnx⟩:=hrel;have HOK:Hid (∀ j x,j < k->fs[j]? = some x->qE0 l.toNat x):=hok;clear hok;by_cases hkn:k < n
   ·obtain ⟨b,off,x,rfl,hs,hr,hci⟩:=H.out.at hkn
    have HS:Hid (fs[k]? = some x):=hs;have hx:qE0 maxLen x:=HLE.out k x hs;have HCI:Hid (qF5 wr x):=((H.out.below (hnx.mono (Nat.le_refl _))).each k x hs);have hb:b < w.heap.size:=hr.lt;obtain ⟨c0,c1,c2,c3,c4⟩:=hr.below hnx;clear hs hr hci;have hkn':(k:Int) < (n:Int):=by omega
    go_wp2_with fail
    refine (qEO x r _ hx hr0 (by omega) HCI.out).mono ?_;rintro e w1 ⟨⟨r',rfl,hr'1,hr'2⟩,hb1⟩;have hb01:Below w.heap.size w w1:=hnx.trans (hb1.mono hnx.size);by_cases hneg:r' < 0
    ·clear c0 c1 c2 c3 c4;go_wp2;go_ret;exact ⟨⟨_,rfl,by omega,fun q=>by omega⟩,hb01⟩
    ·have HN:Hid (∀ j y,j < k+1->fs[j]? = some y->qE0 l.toNat y):=fun j y hj hy=>by
      by_cases e:j=k
      ·subst e;rw [HS.out] at hy;cases hy;exact QP1 (hr'2 (by omega)) (by omega)
      ·exact HOK.out j y (by omega) hy
     have hge:0<=r':=by omega
     clear c0 c1 c2 c3 c4 hr'2;go_wp2;exact ⟨⟨k+1,r',by omega,by go_num,rfl,hge,by omega,HN.out,hb01⟩,by simp [intOf];omega⟩
   ·have hkn':k=n:=by omega
    subst hkn'
    have HQ:Hid (∀ (k:Nat) c,fs[k]? = some c->qE0 l.toNat c):=fun j x hj=>by
     have : j < k:=by
      by_cases q:j < k
      ·exact q
      ·rw [List.getElem?_eq_none (by rw [HZ.out];omega)] at hj;cases hj
     exact HOK.out j x this hj
    go_wp2;go_ret;exact ⟨⟨r,rfl,hr1,fun _=>⟨hlt,HQ.out⟩⟩,hnx⟩
 ·have hlt':l < (n:Int):=by omega
  go_enter Tryz.func6,Tryz.ntmps6;go_wp2;go_ret;exact ⟨⟨_,rfl,by omega,fun q=>by omega⟩,by go_grown⟩

theorem Tryz.infoCf:(Tryz.prog.info? 71).map (fun i=>(i.zero,i.size,i.bytes))=some (some (.agg #[.int .i64 0,.int .i64 0,.slice none 0 0,.slice none 0 0,.slice none 0 0]),5,88):=by kernel_rfl
abbrev qJY (w:World) (B o:Nat) (d:qA4):World:=((((w.setCell ⟨B,o,none⟩ (.int .i64 d.e)).setCell ⟨B,o+1,none⟩ (.int .i64 d.f)).setCell ⟨B,o+2,none⟩ (.slice d.ra d.rn d.rc)).setCell ⟨B,o+3,none⟩ (.slice d.fa d.fn d.fc)).setCell ⟨B,o+4,none⟩ (.slice d.ca d.cn d.cc)
theorem qFW (w:World) (B o:Nat) (d:qA4) (q:Addr) (h:∀ j,j < 5->q≠⟨B,o+j,none⟩):(qJY w B o d).cell? q=w.cell? q:=by
 have h0:q≠⟨B,o,none⟩:=h 0 (by omega);unfold qJY;rw [World.cell?_setCell_other (h:=fun e=>h 4 (by omega) e.symm),World.cell?_setCell_other (h:=fun e=>h 3 (by omega) e.symm),World.cell?_setCell_other (h:=fun e=>h 2 (by omega) e.symm),World.cell?_setCell_other (h:=fun e=>h 1 (by omega) e.symm),World.cell?_setCell_other (h:=fun e=>h0 e.symm)]
theorem qLP (w:World) (B o:Nat) (d:qA4) (h:∀ j,j < 5->∃ v,w.cell? ⟨B,o+j,none⟩=some v):qI4 (qJY w B o d) B o d:=by
 obtain ⟨v0,h0⟩:=h 0 (by omega);obtain ⟨v1,h1⟩:=h 1 (by omega);obtain ⟨v2,h2⟩:=h 2 (by omega);obtain ⟨v3,h3⟩:=h 3 (by omega);obtain ⟨v4,h4⟩:=h 4 (by omega);rw [Nat.add_zero] at h0;unfold qI4 qJY;refine ⟨?_,?_,?_,?_,?_⟩ <;> simp [go_sem,h0,h1,h2,h3,h4]
structure qH3 (w0 w:World) (n:Nat) (cs ds:List qA4) (k:Nat):Prop where
 ln:ds.length=k
 sm:∀ (j:Nat) c d,cs[j]? = some c->ds[j]? = some d->qH7 c d
 ca:∀ (j:Nat) d,ds[j]? = some d->qI4 w w0.heap.size (j * 5) d
 nw:∀ (j:Nat) d,ds[j]? = some d->CfN w (w0.heap.size+1) d
 rm:(∀ j,j < n * 5->∃ v,w.cell? ⟨w0.heap.size,j,none⟩=some v)/\∀ j,w.frozen? ⟨w0.heap.size,j,none⟩=false
 lt:w0.heap.size < w.heap.size
 bl:Below w0.heap.size w0 w
theorem qH3.below {w0 w w':World} {n:Nat} {cs ds:List qA4} {k:Nat} (h:qH3 w0 w n cs ds k) (hb:Below w.heap.size w w'):qH3 w0 w' n cs ds k :=
 ⟨h.ln,h.sm,fun j d e=>(h.ca j d e).below hb,fun j d e=>⟨(h.nw j d e).rd.below hb,(h.nw j d e).nw.below hb⟩,⟨fun j hj=>by obtain ⟨v,e⟩:=h.rm.1 j hj;exact ⟨v,(hb.cell (p:=⟨w0.heap.size,j,none⟩) h.lt).trans e⟩,fun j=>(hb.frozen (p:=⟨w0.heap.size,j,none⟩) h.lt).trans (h.rm.2 j)⟩,Nat.lt_of_lt_of_le h.lt hb.size,h.bl.trans (hb.mono h.bl.size)⟩
theorem qH3.put {w0 w:World} {n:Nat} {cs ds:List qA4} {k:Nat} (h:qH3 w0 w n cs ds k) (hk:k < n) {c d:qA4} (hc:cs[k]? = some c) (hs:qH7 c d) (hd:CfN w (w0.heap.size+1) d):qH3 w0 (qJY w w0.heap.size (k * 5) d) n cs (ds++[d]) (k+1):=by
 have hl:=h.ln
 have at1:∀ (j:Nat) x,(ds++[d])[j]? = some x->(j < k/\ds[j]? = some x)\/(j=k/\x=d):=fun j x e=>by
  by_cases hj:j < k
  ·rw [List.getElem?_append_left (by omega)] at e;exact .inl ⟨hj,e⟩
  ·have hjk:j=k:=by
    have:=(List.getElem?_eq_some_iff.1 e).1;simp at this;omega
   subst hjk;rw [<- hl,List.getElem?_append_right (Nat.le_refl _),Nat.sub_self] at e;simp at e;exact .inr ⟨rfl,e.symm⟩
 have hg:w0.heap.size < w0.heap.size+1:=Nat.lt_succ_self _;have keepN:∀ x,CfN w (w0.heap.size+1) x->CfN (qJY w w0.heap.size (k * 5) d) (w0.heap.size+1) x:=fun x hx=>((((hx.set hg).set hg).set hg).set hg).set hg
 refine ⟨by simp [hl],fun j c' x e1 e2=>?_,fun j x e=>?_,fun j x e=>?_,⟨fun j hj=>?_,fun j=>?_⟩,by simpa using h.lt,((((h.bl.setCell (Nat.le_refl _) _).setCell (Nat.le_refl _) _).setCell (Nat.le_refl _) _).setCell (Nat.le_refl _) _).setCell (Nat.le_refl _) _⟩
 ·rcases at1 j x e2 with ⟨_,q⟩ | ⟨rfl,rfl⟩
  ·exact h.sm j c' x e1 q
  ·rw [hc] at e1;cases e1;exact hs
 ·rcases at1 j x e with ⟨hj,q⟩ | ⟨rfl,rfl⟩
  ·obtain ⟨a0,a1,a2,a3,a4⟩:=h.ca j x q;have o:∀ i,i < 5->(qJY w w0.heap.size (k * 5) d).cell? ⟨w0.heap.size,j * 5+i,none⟩=w.cell? ⟨w0.heap.size,j * 5+i,none⟩:=fun i hi=>qFW w _ _ d _ (fun i' hi' e=>by have:=congrArg Addr.off e;simp at this;omega)
   exact ⟨(o 0 (by omega)).trans a0,(o 1 (by omega)).trans a1,(o 2 (by omega)).trans a2,(o 3 (by omega)).trans a3,(o 4 (by omega)).trans a4⟩
  ·exact qLP w _ _ x (fun i hi=>h.rm.1 _ (by omega))
 ·rcases at1 j x e with ⟨_,q⟩ | ⟨rfl,rfl⟩
  ·exact keepN x (h.nw j x q)
  ·exact keepN x hd
 ·obtain ⟨v,e⟩:=h.rm.1 j hj
  have s1:∀ (W:World) (p:Addr) (u:Value) (q:Addr),(∃ v,W.cell? q=some v)->∃ v,(W.setCell p u).cell? q=some v:=fun W p u q ⟨v,e⟩=>by
   by_cases hp:q=p
   ·subst hp;exact ⟨u,by simp [go_sem,e]⟩
   ·exact ⟨v,by rw [World.cell?_setCell_other (h:=fun e=>hp e.symm)];exact e⟩
  exact s1 _ _ _ _ (s1 _ _ _ _ (s1 _ _ _ _ (s1 _ _ _ _ (s1 _ _ _ _ ⟨v,e⟩))))
 ·unfold qJY;simp only [World.frozen?_setCell];exact h.rm.2 j
theorem qW0 (a:Option Addr) (n cap:Nat) (cs:List qA4) (w:World) (hn:n<=1048576) (hle:∀ (k:Nat) c,cs[k]? = some c->qE0 1048576 c) (h:qA6 w a n cs) :
  Calls Tryz.prog 9 #[.slice a n cap] w fun e w'=>e = .returned (.slice (some ⟨w.heap.size,0,none⟩) n n)/\∃ ds,qH3 w w' n cs ds n:=by
 obtain ⟨i0,hi,hz0,hz1,hz2⟩:=info_parts Tryz.infoCf;obtain ⟨wm,hmk,hownm,hgrm⟩:=run_make_full (P:=Tryz.prog) (w:=w) w.heap.size 38 71 i0 (.agg #[.int .i64 0,.int .i64 0,.slice none 0 0,.slice none 0 0,.slice none 0 0]) 5 Tryz.underlying38 hi hz0 hz1 .i64 .i64 n (by rw [hz2];omega) (by unfold maxLen;omega) (Nat.le_refl _);have H:Hid (qA6 w a n cs):=h;have HLE:Hid (∀ (k:Nat) c,cs[k]? = some c->qE0 1048576 c):=hle;clear h hle
 have HM:Hid (qH3 w wm n cs [] 0):=by
  refine ⟨rfl,fun j c d _ e=>by simp at e,fun j d e=>by simp at e,fun j d e=>by simp at e,⟨fun j hj=>?_,fun j=>hownm.frozenAt j⟩,(hownm.lt _ rfl).2,(Below.refl _ _).grown hgrm (Nat.le_refl _) (fun k e=>by cases e)⟩;have hl:=hownm.1;exact ⟨_,(hownm.cellAt j (by omega)).trans (List.getElem?_eq_getElem (by omega))⟩
 clear hownm hgrm;have hn':(n:Int)<=1048576:=by omega
 go_enter Tryz.func9,Tryz.ntmps9;go_wp2;go_loopw [4] (fun i wr=>∃ (k:Nat) (ds:List qA4),k<=n/\i = .int .i64 (k:Int)/\Hid (qH3 w wr n cs ds k)) (fun i _=>n - (intOf i).toNat)
 case atStart=>exact ⟨0,[],Nat.zero_le _,rfl,HM⟩
 case round =>
  obtain ⟨k,ds,hk,rfl,HK⟩:=hrel;by_cases hlt:k < n
  ·have hlt':(k:Int) < (n:Int):=by omega
   obtain ⟨b,off,c,rfl,hs,hr,hci⟩:=H.out.at hlt
   have HS:Hid (cs[k]? = some c):=hs;have hb:b < wr.heap.size:=Nat.lt_of_lt_of_le hr.lt HK.out.bl.size;have HCI:Hid (qF5 wr c):=hci.below HK.out.bl;obtain ⟨c0,c1,c2,c3,c4⟩:=hr.below HK.out.bl;have hx:=HLE.out k c hs;clear hs hr hci;go_wp2_with fail
   refine (qEL c _ hx HCI.out).mono ?_;rintro e w1 ⟨d,rfl,hsm,hdi,hdn,hb1⟩;have K1:=HK.out.below hb1;have K2:Hid (qH3 w (qJY w1 w.heap.size (k * 5) d) n cs (ds++[d]) (k+1)):=K1.put hlt HS.out hsm ⟨hdi,hdn.low (by have:=HK.out.lt;omega)⟩;have hl1:=K1.lt;obtain ⟨u0,e0⟩:=K1.rm.1 (k * 5) (by omega);obtain ⟨u1,e1⟩:=K1.rm.1 (k * 5+1) (by omega);obtain ⟨u2,e2⟩:=K1.rm.1 (k * 5+2) (by omega);obtain ⟨u3,e3⟩:=K1.rm.1 (k * 5+3) (by omega);obtain ⟨u4,e4⟩:=K1.rm.1 (k * 5+4) (by omega);have f0:=K1.rm.2 (k * 5);have f1:=K1.rm.2 (k * 5+1);have f2:=K1.rm.2 (k * 5+2);have f3:=K1.rm.2 (k * 5+3);have f4:=K1.rm.2 (k * 5+4);clear K1 hsm hdi hdn hb1 c0 c1 c2 c3 c4 HK;go_wp2_with fail
   exact ⟨⟨k+1,ds++[d],by omega,by go_num,K2⟩,by simp [intOf];omega⟩
  ·have hkn:k=n:=by omega
   subst hkn;go_wp2_with fail
   go_ret;exact ⟨rfl,ds,HK.out⟩
theorem qH3.isIn {w0 w:World} {n:Nat} {cs ds:List qA4} (h:qH3 w0 w n cs ds n):qA6 w (some ⟨w0.heap.size,0,none⟩) n ds :=
 ⟨h.ln,fun _=>⟨_,0,rfl,fun k c e=>by rw [Nat.zero_add];exact h.ca k c e⟩,fun k c e=>(h.nw k c e).rd⟩
theorem QR3 (a b:Option Addr) (n ca cb:Nat) (cs ds:List qA4) (w:World) (hn:n<=1048576) (hle:∀ (k:Nat) c,cs[k]? = some c->qE0 1048576 c) (hs:∀ (j:Nat) c d,cs[j]? = some c->ds[j]? = some d->qH7 c d) (h:qA6 w a n cs) (h':qA6 w b n ds) :
  Calls Tryz.prog 13 #[.slice a n ca,.slice b n cb] w fun e w'=>e = .returned (.bool true)/\Below w.heap.size w w':=by
 have HA:Hid (qA6 w a n cs):=h;have HB:Hid (qA6 w b n ds):=h';have HLE:Hid (∀ (k:Nat) c,cs[k]? = some c->qE0 1048576 c):=hle;have HSM:Hid (∀ (j:Nat) c d,cs[j]? = some c->ds[j]? = some d->qH7 c d):=hs;clear h h' hle hs;have hn':(n:Int)<=1048576:=by omega
 go_enter Tryz.func13,Tryz.ntmps13;go_wp2;go_loopw [5] (fun i wr=>∃ k:Nat,k<=n/\i = .int .i64 (k:Int)/\Below w.heap.size w wr) (fun i _=>n - (intOf i).toNat)
 case atStart=>exact ⟨0,Nat.zero_le _,rfl,Below.refl _ _⟩
 case round =>
  obtain ⟨k,hk,rfl,hnx⟩:=hrel;by_cases hlt:k < n
  ·obtain ⟨b1,o1,s,e1,hs1,hr1,hi1⟩:=HA.out.at hlt
   obtain ⟨b2,o2,s2,e2,hs2,hr2,hi2⟩:=HB.out.at hlt
   subst e1 e2;have hb1:b1 < wr.heap.size:=Nat.lt_of_lt_of_le hr1.lt hnx.size;have hb2:b2 < wr.heap.size:=Nat.lt_of_lt_of_le hr2.lt hnx.size;obtain ⟨h0,h1,h2,h3,h4⟩:=hr1.below hnx;obtain ⟨g0,g1,g2,g3,g4⟩:=hr2.below hnx
   have HEQ:Hid (∀ W,Below wr.heap.size wr W->Calls Tryz.prog 38 #[.agg #[.int .i64 s.e,.int .i64 s.f,.slice s.ra s.rn s.rc,.slice s.fa s.fn s.fc,.slice s.ca s.cn s.cc],.agg #[.int .i64 s2.e,.int .i64 s2.f,.slice s2.ra s2.rn s2.rc,.slice s2.fa s2.fn s2.fc,.slice s2.ca s2.cn s2.cc]] W fun e w'=>e = .returned (.bool true)/\Below W.heap.size W w'):=by
    have q1:=HLE.out k s hs1;have q2:=HSM.out k s s2 hs1 hs2;exact fun W hW=>QX9 s s2 W q1 q2 ((hi1.below hnx).below hW) ((hi2.below hnx).below hW)
   have hlt':(k:Int) < (n:Int):=by omega
   clear hr1 hr2 hi1 hi2 hs1 hs2;go_wp2
   go_region_held3 (fun w'=>(∀ b o,b < wr.heap.size->w'.cell? ⟨b,o,none⟩=wr.cell? ⟨b,o,none⟩)/\Below wr.heap.size wr w') (first | exact hS | exact qC1 _)
    (first | (go_at_call 38;refine (HEQ.out _ (by first | exact hHeld.2 | exact (Below.refl _ _).drew)).mono ?_;rintro e w' ⟨rfl,hbz⟩;have hS:=qA9 (by assumption) hbz))
   go_wp2;exact ⟨⟨k+1,by omega,by go_num,hnx.trans (hS.2.mono hnx.size)⟩,by simp [intOf];omega⟩
  ·have hkn:k=n:=by omega
   subst hkn;go_wp2;go_ret;exact ⟨rfl,hnx⟩

structure Mrk (w w':World):Prop where
 it:∀ (a:Addr) (x:Int),w.cell? a=some (.int .i64 x)->∃ y,w'.cell? a=some (.int .i64 y)
 sl:∀ (a:Addr) (b:Option Addr) (n c:Nat),w.cell? a=some (.slice b n c)->w'.cell? a=some (.slice b n c)
 fr:∀ a,w'.frozen? a=w.frozen? a
theorem Mrk.refl (w:World):Mrk w w:=⟨fun _ x h=>⟨x,h⟩,fun _ _ _ _ h=>h,fun _=>rfl⟩
theorem Mrk.trans {a b c:World} (h:Mrk a b) (k:Mrk b c):Mrk a c :=
 ⟨fun q x e=>by obtain ⟨y,e'⟩:=h.it q x e;exact k.it q y e',fun q b n c e=>k.sl q b n c (h.sl q b n c e),fun q=>(k.fr q).trans (h.fr q)⟩
theorem Mrk.set {w:World} {a:Addr} {x:Int} (h:w.cell? a=some (.int .i64 x)) (y:Int):Mrk w (w.setCell a (.int .i64 y)):=by
 refine ⟨fun q z e=>?_,fun q b n c e=>?_,fun q=>World.frozen?_setCell ..⟩
 ·by_cases hq:q=a
  ·subst hq;exact ⟨y,by simp [go_sem,h]⟩
  ·exact ⟨z,by rw [World.cell?_setCell_other (h:=fun e=>hq e.symm)];exact e⟩
 ·have hq:q≠a:=fun e'=>by subst e';rw [h] at e;cases e
  rw [World.cell?_setCell_other (h:=fun e=>hq e.symm)];exact e
def qM9 (w:World) (g m:Nat):Prop:=(∀ j,j < m->∃ x,w.cell? ⟨g,j,none⟩=some (.int .i64 x))/\∀ j,w.frozen? ⟨g,j,none⟩=false
theorem qM9.mrk {w w':World} {g m:Nat} (h:qM9 w g m) (k:Mrk w w'):qM9 w' g m :=
 ⟨fun j hj=>by obtain ⟨x,e⟩:=h.1 j hj;exact k.it _ x e,fun j=>(k.fr _).trans (h.2 j)⟩
theorem Chg.refl {lo hi:Nat} (w:World):Chg lo hi w w:=Chg.calls (Below.refl _ _)
structure MI (lo hi:Nat) (w0 w:World) (g m:Nat):Prop where
 mr:Mrk w0 w
 ch:Chg lo hi w0 w
 rw:qM9 w g m
theorem MI.set {lo hi:Nat} {w0 w:World} {g m j:Nat} (h:MI lo hi w0 w g m) (hg:lo<=g/\g < hi) (hj:j < m) (y:Int):MI lo hi w0 (w.setCell ⟨g,j,none⟩ (.int .i64 y)) g m:=by
 obtain ⟨x,e⟩:=h.rw.1 j hj;have hm:=Mrk.set e y;exact ⟨h.mr.trans hm,h.ch.trans (Chg.grown (QO5 w g j _) (fun q e=>by cases e;exact hg)),h.rw.mrk hm⟩
theorem QN0 (lo hi g n cap:Nat) (k0:Int) (w:World) (hn:n<=1048576) (h0:0<=k0) (h1:k0<=9000000000000000000) (hg:lo<=g/\g < hi) (h:qM9 w g (n)) :
  Calls Tryz.prog 23 #[.slice (some ⟨g,0,none⟩) n cap,.int .i64 k0] w fun e w'=>e = .returned (.int .i64 (k0+1 * (n:Int)))/\Mrk w w'/\Chg lo hi w w':=by
 have HO:Hid (MI lo hi w w g (n)):=⟨Mrk.refl w,Chg.refl w,h⟩;clear h;have hn':(n:Int)<=1048576:=by omega
 go_enter Tryz.func23,Tryz.ntmps23;go_wp2
 go_loopw [1,5] (fun q i wr=>∃ (j:Nat),j<=n/\i = .int .i64 (j:Int)/\q = .int .i64 (k0+1 * (j:Int))/\MI lo hi w wr g (n))
  (fun _ i _=>n - (intOf i).toNat)
 case atStart=>exact ⟨0,Nat.zero_le _,rfl,by simp,HO.out⟩
 case round =>
  obtain ⟨j,hj,rfl,rfl,hmi⟩:=hrel;have HG:Hid (MI lo hi w wr g (n)):=hmi;have hroom:=hmi.rw;clear hmi;by_cases hlt:j < n
  ·have hlt':(j:Int) < (n:Int):=by omega
   obtain ⟨v0,c0⟩:=hroom.1 (j) (by omega);have f0:=hroom.2 (j);clear hroom;go_wp2;refine ⟨⟨j+1,by omega,by go_num,?_,?_⟩,by simp [intOf];omega⟩
   ·congr 1;omega
   ·exact (HG.out.set hg (show j < n by omega) _)
  ·have hjn:j=n:=by omega
   subst hjn;clear hroom;go_wp2;go_ret;exact ⟨rfl,HG.out.mr,HG.out.ch⟩
theorem qM9.below {w w':World} {g m:Nat} (h:qM9 w g m) (hg:g < w.heap.size) (hb:Below w.heap.size w w'):qM9 w' g m :=
 ⟨fun j hj=>by obtain ⟨x,e⟩:=h.1 j hj;exact ⟨x,(hb.cell (p:=⟨g,j,none⟩) hg).trans e⟩,fun j=>(hb.frozen (p:=⟨g,j,none⟩) hg).trans (h.2 j)⟩
structure qBQ (P:World->Prop) (W:World):Prop where
 out:P W
 kept:∀ X X':World,P X->Below X.heap.size X X'->P X'
theorem qBQ.below {P:World->Prop} {W W':World} (h:qBQ P W) (hb:Below W.heap.size W W'):qBQ P W':=⟨h.kept _ _ h.out hb,h.kept⟩

theorem qAS (lo hi g n cap:Nat) (k0:Int) (w:World) (hn:n<=1048576) (h0:0<=k0) (h1:k0<=9000000000000000000) (hg:lo<=g/\g < hi) (h:qM9 w g (n * 8)) :
  Calls Tryz.prog 41 #[.slice (some ⟨g,0,none⟩) n cap,.int .i64 k0] w fun e w'=>e = .returned (.int .i64 (k0+8 * (n:Int)))/\Mrk w w'/\Chg lo hi w w':=by
 have HO:Hid (MI lo hi w w g (n * 8)):=⟨Mrk.refl w,Chg.refl w,h⟩;clear h;have hn':(n:Int)<=1048576:=by omega
 go_enter Tryz.func41,Tryz.ntmps41;go_wp2
 go_loopw [1,5] (fun q i wr=>∃ (j:Nat),j<=n/\i = .int .i64 (j:Int)/\q = .int .i64 (k0+8 * (j:Int))/\MI lo hi w wr g (n * 8))
  (fun _ i _=>n - (intOf i).toNat)
 case atStart=>exact ⟨0,Nat.zero_le _,rfl,by simp,HO.out⟩
 case round =>
  obtain ⟨j,hj,rfl,rfl,hmi⟩:=hrel;have HG:Hid (MI lo hi w wr g (n * 8)):=hmi;have hroom:=hmi.rw;clear hmi;by_cases hlt:j < n
  ·have hlt':(j:Int) < (n:Int):=by omega
   obtain ⟨v0,c0⟩:=hroom.1 (j * 8) (by omega);have f0:=hroom.2 (j * 8);obtain ⟨v1,c1⟩:=hroom.1 (j * 8+1) (by omega);have f1:=hroom.2 (j * 8+1);obtain ⟨v2,c2⟩:=hroom.1 (j * 8+2) (by omega);have f2:=hroom.2 (j * 8+2);obtain ⟨v3,c3⟩:=hroom.1 (j * 8+3) (by omega);have f3:=hroom.2 (j * 8+3);obtain ⟨v4,c4⟩:=hroom.1 (j * 8+4) (by omega);have f4:=hroom.2 (j * 8+4);obtain ⟨v5,c5⟩:=hroom.1 (j * 8+5) (by omega);have f5:=hroom.2 (j * 8+5);obtain ⟨v6,c6⟩:=hroom.1 (j * 8+6) (by omega);have f6:=hroom.2 (j * 8+6);obtain ⟨v7,c7⟩:=hroom.1 (j * 8+7) (by omega);have f7:=hroom.2 (j * 8+7);clear hroom;go_wp2;refine ⟨⟨j+1,by omega,by go_num,?_,?_⟩,by simp [intOf];omega⟩
   ·congr 1;omega
   ·exact ((((((((HG.out.set hg (show j * 8 < n * 8 by omega) _).set hg (show j * 8+1 < n * 8 by omega) _).set hg (show j * 8+2 < n * 8 by omega) _).set hg (show j * 8+3 < n * 8 by omega) _).set hg (show j * 8+4 < n * 8 by omega) _).set hg (show j * 8+5 < n * 8 by omega) _).set hg (show j * 8+6 < n * 8 by omega) _).set hg (show j * 8+7 < n * 8 by omega) _)
  ·have hjn:j=n:=by omega
   subst hjn;clear hroom;go_wp2;go_ret;exact ⟨rfl,HG.out.mr,HG.out.ch⟩
theorem qAT (lo hi g n cap:Nat) (k0:Int) (w:World) (hn:n<=1048576) (h0:0<=k0) (h1:k0<=9000000000000000000) (hg:lo<=g/\g < hi) (h:qM9 w g (n * 5)) :
  Calls Tryz.prog 72 #[.slice (some ⟨g,0,none⟩) n cap,.int .i64 k0] w fun e w'=>e = .returned (.int .i64 (k0+5 * (n:Int)))/\Mrk w w'/\Chg lo hi w w':=by
 have HO:Hid (MI lo hi w w g (n * 5)):=⟨Mrk.refl w,Chg.refl w,h⟩;clear h;have hn':(n:Int)<=1048576:=by omega
 go_enter Tryz.func72,Tryz.ntmps72;go_wp2
 go_loopw [1,5] (fun q i wr=>∃ (j:Nat),j<=n/\i = .int .i64 (j:Int)/\q = .int .i64 (k0+5 * (j:Int))/\MI lo hi w wr g (n * 5))
  (fun _ i _=>n - (intOf i).toNat)
 case atStart=>exact ⟨0,Nat.zero_le _,rfl,by simp,HO.out⟩
 case round =>
  obtain ⟨j,hj,rfl,rfl,hmi⟩:=hrel;have HG:Hid (MI lo hi w wr g (n * 5)):=hmi;have hroom:=hmi.rw;clear hmi;by_cases hlt:j < n
  ·have hlt':(j:Int) < (n:Int):=by omega
   obtain ⟨v0,c0⟩:=hroom.1 (j * 5) (by omega);have f0:=hroom.2 (j * 5);obtain ⟨v1,c1⟩:=hroom.1 (j * 5+1) (by omega);have f1:=hroom.2 (j * 5+1);obtain ⟨v2,c2⟩:=hroom.1 (j * 5+2) (by omega);have f2:=hroom.2 (j * 5+2);obtain ⟨v3,c3⟩:=hroom.1 (j * 5+3) (by omega);have f3:=hroom.2 (j * 5+3);obtain ⟨v4,c4⟩:=hroom.1 (j * 5+4) (by omega);have f4:=hroom.2 (j * 5+4);clear hroom;go_wp2;refine ⟨⟨j+1,by omega,by go_num,?_,?_⟩,by simp [intOf];omega⟩
   ·congr 1;omega
   ·exact (((((HG.out.set hg (show j * 5 < n * 5 by omega) _).set hg (show j * 5+1 < n * 5 by omega) _).set hg (show j * 5+2 < n * 5 by omega) _).set hg (show j * 5+3 < n * 5 by omega) _).set hg (show j * 5+4 < n * 5 by omega) _)
  ·have hjn:j=n:=by omega
   subst hjn;clear hroom;go_wp2;go_ret;exact ⟨rfl,HG.out.mr,HG.out.ch⟩
def QR8 (lo hi:Nat) (w:World) (x:qF2):Prop:=x.n<=1048576/\∃ g,x.a=some ⟨g,0,none⟩/\lo<=g/\g < hi/\qM9 w g (x.n * 5)
theorem QR8.mrk {lo hi:Nat} {w w':World} {x:qF2} (h:QR8 lo hi w x) (k:Mrk w w'):QR8 lo hi w' x:=by
 obtain ⟨h0,g,h1,h2,h3,h4⟩:=h;exact ⟨h0,g,h1,h2,h3,h4.mrk k⟩
def qU5 (lo hi:Nat) (w:World) (g n:Nat) (fs:List qF2):Prop:=fs.length=n/\∀ (k:Nat) (x:qF2),fs[k]? = some x->w.cell? ⟨g,k,none⟩=some (.slice x.a x.n x.cap)/\QR8 lo hi w x
theorem qU5.mrk {lo hi:Nat} {w w':World} {g n:Nat} {fs:List qF2} (h:qU5 lo hi w g n fs) (k:Mrk w w'):qU5 lo hi w' g n fs :=
 ⟨h.1,fun j x e=>⟨k.sl _ _ _ _ (h.2 j x e).1,(h.2 j x e).2.mrk k⟩⟩
theorem qAV (lo hi g n cap:Nat) (k0:Int) (fs:List qF2) (w:World) (hn:n<=1048576) (h0:0<=k0) (h1:k0<=8000000000000000000) (h:qU5 lo hi w g n fs) :
  Calls Tryz.prog 42 #[.slice (some ⟨g,0,none⟩) n cap,.int .i64 k0] w fun e w'=>(∃ k:Int,e = .returned (.int .i64 k)/\k0<=k/\k<=k0+5242880 * (n:Int))/\Mrk w w'/\Chg lo hi w w':=by
 have HO:Hid (qU5 lo hi w g n fs):=h;clear h;have hn':(n:Int)<=1048576:=by omega
 go_enter Tryz.func42,Tryz.ntmps42;go_wp2
 go_loopw [1,5] (fun q i wr=>∃ (j:Nat) (k:Int),j<=n/\i = .int .i64 (j:Int)/\q = .int .i64 k/\(k0<=k/\k<=k0+5242880 * (j:Int))/\Mrk w wr/\Chg lo hi w wr)
  (fun _ i _=>n - (intOf i).toNat)
 case atStart=>exact ⟨0,k0,Nat.zero_le _,rfl,rfl,⟨by omega,by omega⟩,Mrk.refl _,Chg.refl _⟩
 case round =>
  obtain ⟨j,k,hj,rfl,rfl,⟨hk0,hk1⟩,hmk,hch⟩:=hrel;have HM:Hid (Mrk w wr/\Chg lo hi w wr):=⟨hmk,hch⟩;have HT:=HO.out.mrk hmk;clear hmk hch;by_cases hlt:j < n
  ·have hlt':(j:Int) < (n:Int):=by omega
   obtain ⟨x,hx⟩:∃ x,fs[j]? = some x:=⟨_,List.getElem?_eq_getElem (by rw [HT.1];exact hlt)⟩;obtain ⟨hc,hxn,gp,hxa,hlo,hhi,hrow⟩:=HT.2 j x hx;have HR:Hid (qM9 wr gp (x.n * 5)):=hrow;have hgl:=zL wr ⟨g,j,none⟩ hc;rw [hxa] at hc;clear hx hrow HT;go_wp2_with fail
   refine (qAT lo hi gp x.n x.cap k wr hxn (by omega) (by omega) ⟨hlo,hhi⟩ HR.out).mono ?_;rintro d w1 ⟨rfl,hm1,hc1⟩;have HM1:Hid (Mrk w w1/\Chg lo hi w w1):=⟨HM.out.1.trans hm1,HM.out.2.trans hc1⟩;have hxn':(x.n:Int)<=1048576:=by omega
   clear hm1 hc1 HM hc;go_wp2_with fail
   exact ⟨⟨j+1,k+5 * (x.n:Int),by omega,by go_num,rfl,⟨by omega,by simp;omega⟩,HM1.out.1,HM1.out.2⟩,by simp [intOf];omega⟩
  ·have hjn:j=n:=by omega
   subst hjn;go_wp2_with fail
   go_ret;exact ⟨⟨k,rfl,hk0,hk1⟩,HM.out.1,HM.out.2⟩

structure qBS (lo hi:Nat) (w:World) (d:qA4):Prop where
 ru:d.rn<=1048576/\∃ g,d.ra=some ⟨g,0,none⟩/\lo<=g/\g < hi/\qM9 w g (d.rn * 8)
 fo:d.fn<=1048576/\∃ g,d.fa=some ⟨g,0,none⟩/\qU5 lo hi w g d.fn d.fs
 cl:d.cn<=1048576/\∃ g,d.ca=some ⟨g,0,none⟩/\lo<=g/\g < hi/\qM9 w g d.cn
theorem qBS.mrk {lo hi:Nat} {w w':World} {d:qA4} (h:qBS lo hi w d) (k:Mrk w w'):qBS lo hi w' d:=by
 obtain ⟨⟨a0,g,a1,a2,a3,a4⟩,⟨b0,g',b1,b2⟩,⟨c0,g'',c1,c2,c3,c4⟩⟩:=h;exact ⟨⟨a0,g,a1,a2,a3,a4.mrk k⟩,⟨b0,g',b1,b2.mrk k⟩,⟨c0,g'',c1,c2,c3,c4.mrk k⟩⟩
structure qP7 (lo hi:Nat) (w:World) (T n:Nat) (ds:List qA4):Prop where
 ln:ds.length=n
 at5:∀ (j:Nat) (d:qA4),ds[j]? = some d->(∃ x,w.cell? ⟨T,j * 5,none⟩=some (.int .i64 x))/\(∃ x,w.cell? ⟨T,j * 5+1,none⟩=some (.int .i64 x))/\w.cell? ⟨T,j * 5+2,none⟩=some (.slice d.ra d.rn d.rc)/\w.cell? ⟨T,j * 5+3,none⟩=some (.slice d.fa d.fn d.fc)/\w.cell? ⟨T,j * 5+4,none⟩=some (.slice d.ca d.cn d.cc)/\qBS lo hi w d
 fr:∀ o,w.frozen? ⟨T,o,none⟩=false
 lo:lo<=T/\T < hi
theorem qP7.mrk {lo hi:Nat} {w w':World} {T n:Nat} {ds:List qA4} (h:qP7 lo hi w T n ds) (k:Mrk w w'):qP7 lo hi w' T n ds :=
 ⟨h.ln,fun j d e=>by
  obtain ⟨⟨x,h0⟩,⟨y,h1⟩,h2,h3,h4,h5⟩:=h.at5 j d e;exact ⟨k.it _ x h0,k.it _ y h1,k.sl _ _ _ _ h2,k.sl _ _ _ _ h3,k.sl _ _ _ _ h4,h5.mrk k⟩,fun o=>(k.fr _).trans (h.fr o),h.lo⟩
theorem QQ7 (lo hi T n cap:Nat) (k0:Int) (ds:List qA4) (w:World) (hn:n<=1048576) (h0:0<=k0) (h1:k0<=1000000000000000000) (h:qP7 lo hi w T n ds) :
  Calls Tryz.prog 15 #[.slice (some ⟨T,0,none⟩) n cap,.int .i64 k0] w fun e w'=>(∃ k:Int,e = .returned (.int .i64 k)/\k0<=k/\k<=k0+5497567576066 * (n:Int))/\Mrk w w'/\Chg lo hi w w':=by
 have HO:Hid (qP7 lo hi w T n ds):=h;clear h;have hn':(n:Int)<=1048576:=by omega
 go_enter Tryz.func15,Tryz.ntmps15;go_wp2
 go_loopw [1,5] (fun q i wr=>∃ (j:Nat) (k:Int),j<=n/\i = .int .i64 (j:Int)/\q = .int .i64 k/\(k0<=k/\k<=k0+5497567576066 * (j:Int))/\Mrk w wr/\Chg lo hi w wr)
  (fun _ i _=>n - (intOf i).toNat)
 case atStart=>exact ⟨0,k0,Nat.zero_le _,rfl,rfl,⟨by omega,by omega⟩,Mrk.refl _,Chg.refl _⟩
 case round =>
  obtain ⟨j,k,hj,rfl,rfl,⟨hk0,hk1⟩,hmk,hch⟩:=hrel;have HM:Hid (Mrk w wr/\Chg lo hi w wr):=⟨hmk,hch⟩;have HT:Hid (qP7 lo hi wr T n ds):=HO.out.mrk hmk;clear hmk hch;by_cases hlt:j < n
  ·have hlt':(j:Int) < (n:Int):=by omega
   obtain ⟨d,hd⟩:∃ d,ds[j]? = some d:=⟨_,List.getElem?_eq_getElem (by rw [HT.out.ln];exact hlt)⟩;obtain ⟨⟨x,c0⟩,⟨y,c1⟩,c2,c3,c4,hck⟩:=HT.out.at5 j d hd;have HCK:Hid (qBS lo hi wr d):=hck;obtain ⟨⟨hrn,gr,hra,_⟩,⟨hfn,gf,hfa,_⟩,⟨hcn,gc,hca,_⟩⟩:=hck;have f0:=HT.out.fr (j * 5);have f1:=HT.out.fr (j * 5+1);have hTl:=zL wr ⟨T,j * 5,none⟩ c0;rw [hra] at c2;rw [hfa] at c3;rw [hca] at c4;obtain ⟨W2,hW2⟩:∃ W2,W2=(wr.setCell ⟨T,j * 5,none⟩ (.int .i64 k)).setCell ⟨T,j * 5+1,none⟩ (.int .i64 (k+1)):=⟨_,rfl⟩
   have M2:Mrk wr W2:=by
    rw [hW2];obtain ⟨z,hz⟩:=(Mrk.set c0 k).it _ _ c1;exact (Mrk.set c0 k).trans (Mrk.set hz (k+1))
   have C2:Chg lo hi wr W2:=by
    rw [hW2];exact (Chg.grown (QO5 wr T (j * 5) _) (fun q e=>by cases e;exact HT.out.lo)).trans (Chg.grown (QO5 _ T (j * 5+1) _) (fun q e=>by cases e;exact HT.out.lo))
   have HM2:Hid (Mrk w W2/\Chg lo hi w W2):=⟨HM.out.1.trans M2,HM.out.2.trans C2⟩;have HD:Hid (ds[j]? = some d):=hd;clear M2 C2 hd HM;go_upto_region 8 with fail
   rw [<- hW2];clear hW2 c0 c1 f0 f1 hTl;have q2:=((HO.out.mrk HM2.out.1).at5 j d HD.out).2.2.1;rw [hra] at q2;have hTl:=zL W2 ⟨T,j * 5+2,none⟩ q2;obtain ⟨⟨_,gr',hra',hrlo,hrhi,hrow⟩,_,_⟩:=((HO.out.mrk HM2.out.1).at5 j d HD.out).2.2.2.2.2;rw [hra] at hra';cases hra';have HR:Hid (qM9 W2 gr (d.rn * 8)):=hrow;clear hrow c2 c3 c4;go_wp2_with fail
   refine (qAS lo hi gr d.rn d.rc _ W2 hrn ?h0 ?h1 ⟨hrlo,hrhi⟩ HR.out).mono ?_
   case h0=>omega
   case h1=>omega
   rintro e w3 ⟨rfl,m3,h3⟩;have HM3:Hid (Mrk w w3/\Chg lo hi w w3):=⟨HM2.out.1.trans m3,HM2.out.2.trans h3⟩;clear m3 h3 HM2 q2 hTl HR;have q3:=((HO.out.mrk HM3.out.1).at5 j d HD.out).2.2.2.1;rw [hfa] at q3;have hTl:=zL w3 ⟨T,j * 5+3,none⟩ q3;obtain ⟨_,⟨_,gf',hfa',hft⟩,_⟩:=((HO.out.mrk HM3.out.1).at5 j d HD.out).2.2.2.2.2;rw [hfa] at hfa';cases hfa';have HF:Hid (qU5 lo hi w3 gf d.fn d.fs):=hft;have hrn':(d.rn:Int)<=1048576:=by omega
   clear hft;go_wp2_with fail
   refine (qAV lo hi gf d.fn d.fc _ d.fs w3 hfn ?h0 ?h1 HF.out).mono ?_
   case h0=>omega
   case h1=>omega
   rintro e w4 ⟨⟨k4,rfl,k40,k41⟩,m4,h4⟩;have HM4:Hid (Mrk w w4/\Chg lo hi w w4):=⟨HM3.out.1.trans m4,HM3.out.2.trans h4⟩;clear m4 h4 HM3 q3 hTl HF;have q4:=((HO.out.mrk HM4.out.1).at5 j d HD.out).2.2.2.2.1;rw [hca] at q4;have hTl:=zL w4 ⟨T,j * 5+4,none⟩ q4;obtain ⟨_,_,⟨_,gc',hca',hclo,hchi,hcrow⟩⟩:=((HO.out.mrk HM4.out.1).at5 j d HD.out).2.2.2.2.2;rw [hca] at hca';cases hca';have HC:Hid (qM9 w4 gc d.cn):=hcrow;have hfn':(d.fn:Int)<=1048576:=by omega
   have hcn':(d.cn:Int)<=1048576:=by omega
   clear hcrow;go_wp2_with fail
   refine (QN0 lo hi gc d.cn d.cc k4 w4 hcn (by omega) (by omega) ⟨hclo,hchi⟩ HC.out).mono ?_;rintro e w5 ⟨rfl,m5,h5⟩;have HM5:Hid (Mrk w w5/\Chg lo hi w w5):=⟨HM4.out.1.trans m5,HM4.out.2.trans h5⟩;clear m5 h5 HM4 q4 hTl HC;go_wp2_with fail
   exact ⟨⟨j+1,k4+1 * (d.cn:Int),by omega,by go_num,by congr 1;omega,⟨by omega,by simp;omega⟩,HM5.out.1,HM5.out.2⟩,by simp [intOf];omega⟩
  ·have hjn:j=n:=by omega
   subst hjn;go_wp2_with fail
   go_ret;exact ⟨⟨k,rfl,hk0,hk1⟩,HM.out.1,HM.out.2⟩
theorem qH3.tab {w0 w:World} {n:Nat} {cs ds:List qA4} (h:qH3 w0 w n cs ds n) (hle:∀ (k:Nat) d,ds[k]? = some d->qE0 1048576 d):qP7 w0.heap.size w.heap.size w w0.heap.size n ds:=by
 refine ⟨h.ln,fun j d e=>?_,h.rm.2,Nat.le_refl _,h.lt⟩;obtain ⟨a0,a1,a2,a3,a4⟩:=h.ca j d e;have hn:=h.nw j d e;have hl:=hle j d e;refine ⟨⟨_,a0⟩,⟨_,a1⟩,a2,a3,a4,⟨hl.rules,?_⟩,⟨hl.forms,?_⟩,⟨hl.classes,?_⟩⟩
 ·obtain ⟨_,g,hg,hlo,hhi,hroom⟩:=hn.nw.rules;refine ⟨g,hg,by omega,hhi,fun q hq=>?_,hroom.2⟩;have hr:=hn.rd.rules;rw [hg] at hr;obtain ⟨b,off,eb,hat⟩:=hr.2 (by omega);cases eb;have hx:d.zs[q / 8]? = some (d.zs[q / 8]'(by rw [hr.1];omega)):=List.getElem?_eq_getElem _;obtain ⟨c0,c1,c2,c3,c4,c5,c6,c7⟩:=hat _ _ hx;simp only [Nat.zero_add] at c0 c1 c2 c3 c4 c5 c6 c7;have hm:q % 8=0\/q % 8=1\/q % 8=2\/q % 8=3\/q % 8=4\/q % 8=5\/q % 8=6\/q % 8=7:=by omega
  rcases hm with hm | hm | hm | hm | hm | hm | hm | hm
  ·exact ⟨_,by rw [show q=q / 8 * 8 by omega];exact c0⟩
  ·exact ⟨_,by rw [show q=q / 8 * 8+1 by omega];exact c1⟩
  ·exact ⟨_,by rw [show q=q / 8 * 8+2 by omega];exact c2⟩
  ·exact ⟨_,by rw [show q=q / 8 * 8+3 by omega];exact c3⟩
  ·exact ⟨_,by rw [show q=q / 8 * 8+4 by omega];exact c4⟩
  ·exact ⟨_,by rw [show q=q / 8 * 8+5 by omega];exact c5⟩
  ·exact ⟨_,by rw [show q=q / 8 * 8+6 by omega];exact c6⟩
  ·exact ⟨_,by rw [show q=q / 8 * 8+7 by omega];exact c7⟩
 ·obtain ⟨_,g,hg,hlo,hhi,hroom⟩:=hn.nw.forms;refine ⟨g,hg,hn.rd.forms.1,fun q x hx=>⟨?_,?_⟩⟩
  ·have hf:=hn.rd.forms;rw [hg] at hf;have hq:q < d.fn:=by rw [<- hf.1];exact (List.getElem?_eq_some_iff.1 hx).1
   obtain ⟨b,off,eb,hat⟩:=hf.2 (by omega);cases eb;have:=(hat q x hx).1;rw [Nat.zero_add] at this;exact this
  ·obtain ⟨_,gp,hgp,hplo,hphi,hproom⟩:=hn.nw.parts q x hx;refine ⟨hl.parts q x hx,gp,hgp,by omega,hphi,fun r hr=>?_,hproom.2⟩;have hf:=hn.rd.forms;have hq:q < d.fn:=by rw [<- hf.1];exact (List.getElem?_eq_some_iff.1 hx).1
   obtain ⟨b,off,eb,hat⟩:=hf.2 (by omega);have hp:=(hat q x hx).2;rw [hgp] at hp;obtain ⟨b',off',eb',hat'⟩:=hp.2 (by omega);cases eb';have hy:x.ps[r / 5]? = some (x.ps[r / 5]'(by rw [hp.1];omega)):=List.getElem?_eq_getElem _;obtain ⟨c0,c1,c2,c3,c4⟩:=hat' _ _ hy;simp only [Nat.zero_add] at c0 c1 c2 c3 c4;have hm:r % 5=0\/r % 5=1\/r % 5=2\/r % 5=3\/r % 5=4:=by omega
   rcases hm with hm | hm | hm | hm | hm
   ·exact ⟨_,by rw [show r=r / 5 * 5 by omega];exact c0⟩
   ·exact ⟨_,by rw [show r=r / 5 * 5+1 by omega];exact c1⟩
   ·exact ⟨_,by rw [show r=r / 5 * 5+2 by omega];exact c2⟩
   ·exact ⟨_,by rw [show r=r / 5 * 5+3 by omega];exact c3⟩
   ·exact ⟨_,by rw [show r=r / 5 * 5+4 by omega];exact c4⟩
 ·obtain ⟨_,g,hg,hlo,hhi,hroom⟩:=hn.nw.classes;refine ⟨g,hg,by omega,hhi,fun q hq=>?_,hroom.2⟩;have hr:=hn.rd.classes;rw [hg] at hr;obtain ⟨b,off,eb,hat⟩:=hr.2 (by omega);cases eb;have hx:d.cs[q]? = some (d.cs[q]'(by rw [hr.1];omega)):=List.getElem?_eq_getElem _;have:=hat _ _ hx;rw [Nat.zero_add] at this;exact ⟨_,this⟩

structure qP9 (cs ds:List qA4):Prop where
 ln:ds.length=cs.length
 sm:∀ (j:Nat) c d,cs[j]? = some c->ds[j]? = some d->qH7 c d
theorem qBI {c d:qA4} (h:qH7 c d):qU3 d=qU3 c:=by
 unfold qU3;rw [h.e,h.f,h.zs,h.ps,h.cs]
theorem qP9.get {cs ds:List qA4} (h:qP9 cs ds) {j:Nat} {d:qA4} (e:ds[j]? = some d):∃ c,cs[j]? = some c/\qH7 c d:=by
 have hj:=(List.getElem?_eq_some_iff.1 e).1;rw [h.ln] at hj;exact ⟨_,List.getElem?_eq_getElem hj,h.sm j _ d (List.getElem?_eq_getElem hj) e⟩
theorem qP9.f0 {cs ds:List qA4} (h:qP9 cs ds):(ds[0]?.getD default).f=(cs[0]?.getD default).f:=by
 cases e:ds[0]? with
 | none =>
  have : ds.length<=0:=by simpa using e
  have e2:cs[0]? = none:=List.getElem?_eq_none (by rw [<- h.ln];exact this);rw [e2]
 | some d =>
  obtain ⟨c,hc,hs⟩:=h.get e;rw [hc];exact hs.f
theorem qAE {cs ds:List qA4} (h:qP9 cs ds):∀ k,qJ2 ds k=qJ2 cs k
 | 0=>rfl
 | k+1=>by
  have ih:=qAE h k
  show (if qJ2 ds k=0 then (match ds[k]? with
   | none=>0
   | some c=>if qU3 c=0 then (if c.f=(ds[0]?.getD default).f then 0 else 1) else qU3 c) else qJ2 ds k)=_
  rw [ih];by_cases q:qJ2 cs k=0
  ·rw [if_pos q];cases e:ds[k]? with
   | none =>
    have : ds.length<=k:=by simpa using e
    have e2:cs[k]? = none:=List.getElem?_eq_none (by rw [<- h.ln];exact this);rw [qJ2,if_pos q,e2]
   | some d =>
    obtain ⟨c,hc,hs⟩:=h.get e;rw [QA0 hc q];simp only;rw [qBI hs,hs.f,h.f0]
  ·rw [if_neg q,qJ2,if_neg q]
theorem qP9.cfs {cs ds:List qA4} (h:qP9 cs ds):qC4 ds=qC4 cs:=by
 unfold qC4;rw [h.ln,qAE h]
theorem qH3.same {w0 w:World} {n:Nat} {cs ds:List qA4} (h:qH3 w0 w n cs ds n) (hc:cs.length=n):qP9 cs ds:=⟨h.ln.trans hc.symm,h.sm⟩
theorem qH3.le {w0 w wA:World} {a:Option Addr} {n:Nat} {cs ds:List qA4} (h:qH3 w0 w n cs ds n) (hn:n<=1048576) (hi:qA6 wA a n cs) (hl:∀ (k:Nat) c,cs[k]? = some c->qE0 1048576 c):qG0 1048576 ds:=by
 have hS:=h.same hi.len;refine ⟨fun k d e=>?_,fun k d e=>?_⟩
 ·obtain ⟨c,hc,hs⟩:=hS.get e;exact hs.le (hi.each k c hc) (h.nw k d e).rd (hl k c hc)
 ·obtain ⟨c,hc,hs⟩:=hS.get e;have q:=(h.nw k d e).nw.rules.1;have hl2:=(hs.le (hi.each k c hc) (h.nw k d e).rd (hl k c hc)).rules;refine ⟨(h.nw k d e).nw.cap,?_⟩;rw [q];unfold maxLen;omega
theorem QS3 {cs ds es:List qA4} (h:qP9 cs ds) (g:qP9 cs es):∀ (j:Nat) c d,ds[j]? = some c->es[j]? = some d->qH7 c d:=fun j c d e1 e2=>by
 obtain ⟨x,hx,hs⟩:=h.get e1;exact hs.trans (g.sm j x d hx e2)

theorem QR8.below {lo hi:Nat} {w w':World} {x:qF2} (h:QR8 lo hi w x) (hh:hi<=w.heap.size) (hb:Below w.heap.size w w'):QR8 lo hi w' x:=by
 obtain ⟨h0,g,h1,h2,h3,h4⟩:=h;exact ⟨h0,g,h1,h2,h3,h4.below (by omega) hb⟩
theorem qU5.below {lo hi:Nat} {w w':World} {g n:Nat} {fs:List qF2} (h:qU5 lo hi w g n fs) (hh:hi<=w.heap.size) (hb:Below w.heap.size w w'):qU5 lo hi w' g n fs :=
 ⟨h.1,fun j x e=>⟨(hb.cell (p:=⟨g,j,none⟩) (zL w ⟨g,j,none⟩ (h.2 j x e).1)).trans (h.2 j x e).1,(h.2 j x e).2.below hh hb⟩⟩
theorem qBS.below {lo hi:Nat} {w w':World} {d:qA4} (h:qBS lo hi w d) (hh:hi<=w.heap.size) (hb:Below w.heap.size w w'):qBS lo hi w' d:=by
 obtain ⟨⟨a0,g,a1,a2,a3,a4⟩,⟨b0,g',b1,b2⟩,⟨c0,g'',c1,c2,c3,c4⟩⟩:=h;exact ⟨⟨a0,g,a1,a2,a3,a4.below (by omega) hb⟩,⟨b0,g',b1,b2.below hh hb⟩,⟨c0,g'',c1,c2,c3,c4.below (by omega) hb⟩⟩
theorem qP7.below {lo hi:Nat} {w w':World} {T n:Nat} {ds:List qA4} (h:qP7 lo hi w T n ds) (hh:hi<=w.heap.size) (hb:Below w.heap.size w w'):qP7 lo hi w' T n ds:=by
 have hT:T < w.heap.size:=by have:=h.lo.2;omega
 refine ⟨h.ln,fun j d e=>?_,fun o=>(hb.frozen (p:=⟨T,o,none⟩) hT).trans (h.fr o),h.lo⟩;obtain ⟨⟨x,h0⟩,⟨y,h1⟩,h2,h3,h4,h5⟩:=h.at5 j d e;have k:∀ o,w'.cell? ⟨T,o,none⟩=w.cell? ⟨T,o,none⟩:=fun o=>hb.cell (p:=⟨T,o,none⟩) hT
 exact ⟨⟨x,(k _).trans h0⟩,⟨y,(k _).trans h1⟩,(k _).trans h2,(k _).trans h3,(k _).trans h4,h5.below hh hb⟩
def CpB (lo hi n:Nat) (cs:List qA4) (X:World):Prop:=∃ ds,qA6 X (some ⟨lo,0,none⟩) n ds/\qP9 cs ds/\qG0 1048576 ds/\qP7 lo hi X lo n ds/\hi<=X.heap.size
theorem qH3.cpB {w0 w wA:World} {a:Option Addr} {n:Nat} {cs ds:List qA4} (h:qH3 w0 w n cs ds n) (hn:n<=1048576) (hi:qA6 wA a n cs) (hl:∀ (k:Nat) c,cs[k]? = some c->qE0 1048576 c):qBQ (CpB w0.heap.size w.heap.size n cs) w :=
 ⟨⟨ds,h.isIn,h.same hi.len,h.le hn hi hl,h.tab (h.le hn hi hl).1,Nat.le_refl _⟩,fun X X' hX hb=>by
  obtain ⟨es,h1,h2,h3,h4,h5⟩:=hX;exact ⟨es,h1.below hb,h2,h3,h4.below h5 hb,Nat.le_trans h5 hb.size⟩⟩
theorem qLD {lo hi lo' hi' n:Nat} {cs:List qA4} (ca cb:Nat) {W:World} (hn:n<=1048576) (h:CpB lo hi n cs W) (h':CpB lo' hi' n cs W) :
  Calls Tryz.prog 13 #[.slice (some ⟨lo,0,none⟩) n ca,.slice (some ⟨lo',0,none⟩) n cb] W fun e w'=>e = .returned (.bool true)/\Below W.heap.size W w':=by
 obtain ⟨ds,h1,h2,h3,_,_⟩:=h;obtain ⟨es,k1,k2,_,_,_⟩:=h';exact QR3 _ _ n ca cb ds es W hn h3.1 (QS3 h2 k2) h1 k1
