/- Contracts. -/
import Derived.Test.YtdghpccmdnnenaaGreatDoorPx24
namespace Go.Proofs.YtdghpccmdnnenaaGreatDoor
set_option maxRecDepth 100000
set_option maxHeartbeats 8000000
open Go.RowKit Go.Proofs.Tryz
set_option linter.unusedVariables false
set_option linter.unusedSimpArgs false
theorem qIY(i c v:Int)(w:World):CP 143 #[iv i,.agg #[iv c,iv v]] w fun e w'=>e=.returned (.bool (decide (c=0)&&inR i 1 v))/\Below w.heap.size w w':=by
 have hB:Below w.heap.size w (w.alloc (.cells #[iv c,iv v] 48)):=zN;unfold inR;by_cases q0:c=0
 .have b0:(c==0)=true:=by simp[q0]
  by_cases q1:1<=i
  .by_cases q2:i<=v
   .have e:(decide (c=0)&&(decide (1<=i)&&decide (i<=v)))=true:=by simp[q0,q1,q2]
    rw[e];clear e q0;go_enter func143,ntmps143;go_wp2;go_ret;exact⟨rfl,hB⟩
   .have e:(decide (c=0)&&(decide (1<=i)&&decide (i<=v)))=false:=by simp[q0,q1,q2]
    rw[e];clear e q0;go_enter func143,ntmps143;go_wp2;go_ret;exact⟨rfl,hB⟩
  .have e:(decide (c=0)&&(decide (1<=i)&&decide (i<=v)))=false:=by simp[q1]
   rw[e];clear e q0;go_enter func143,ntmps143;go_wp2;go_ret;exact⟨rfl,hB⟩
 .have b0:(c==0)=false:=by simp[q0]
  have e:(decide (c=0)&&(decide (1<=i)&&decide (i<=v)))=false:=by simp[q0]
  rw[e];clear e q0;go_enter func143,ntmps143;go_wp2;go_ret;exact⟨rfl,hB⟩
/-- A replica's number and what is sure of it are in their bounds. -/
def qI0(f:Int)(r:qD2):Bool:=inR r.i 1 (3*f+1)&&inR r.u 0 (r.sn:Int)
theorem qS8(f:Int)(hf:1<=f/\f<=2)(r:qD2)(w:World)(hsn:r.sn<=1048576):
  CP 191 #[.agg #[iv r.i,iv r.u,.slice r.sa r.sn r.sc,.slice r.la r.ln r.lc],iv f] w fun e w'=>e=.returned (.bool (qI0 f r))/\Below w.heap.size w w':=by
 obtain⟨t,ht⟩:∃t,qI0 f r=t:=⟨_,rfl⟩;rw[ht];have hfr:inR f 1 2=true:=by simp[inR];omega
 have HN:Hid (∀W:World,CP 142 #[iv f] W fun e w'=>e=.returned (.agg #[iv 0,iv (3*f+1)])/\Below W.heap.size W w'):=fun W=>by
  have q:=qM0 f W;unfold qP0 qQ6 qZ7 at q;rw[gK hfr,gK hfr]at q;exact q
 obtain⟨t1,ht1⟩:∃t1,inR r.i 1 (3*f+1)=t1:=⟨_,rfl⟩
 have HI:Hid (∀W:World,CP 143 #[iv r.i,.agg #[iv 0,iv (3*f+1)]] W fun e w'=>e=.returned (.bool t1)/\Below W.heap.size W w'):=fun W=>by
  have q:=qIY r.i 0 (3*f+1) W;rw[ht1,show decide ((0:Int)=0)=true from rfl,Bool.true_and]at q;exact q
 obtain⟨V,hV⟩:∃V,V=w.alloc (.cells #[iv r.i,iv r.u,.slice r.sa r.sn r.sc,.slice r.la r.ln r.lc] 115):=⟨_,rfl⟩;have BV:Hid (Below w.heap.size w V):=by show Below _ _ _;rw[hV];exact zN
 have XV:QD0 w.heap.size [iv r.i,iv r.u,.slice r.sa r.sn r.sc,.slice r.la r.ln r.lc] V:=by rw[hV];exact (qG3 w _ _).out
 have hVl:w.heap.size<V.heap.size:=by rw[hV];simp
 have v0:=XV 0 _ rfl;have v1:=XV 1 _ rfl;have v2:=XV 2 _ rfl;have v3:=XV 3 _ rfl;have hsn':(r.sn:Int)<=1048576:=by omega
 clear XV hfr;cases t1
 .obtain rfl:t=false:=by rw[<- ht];unfold qI0;rw[ht1];rfl
  clear ht ht1;go_enter func191,ntmps191;go_upto_region 1 with fail
  rw[<- hV];clear hV;refine gL (S:=fun w'=>(∀b o,b<V.heap.size->w'.cell? ⟨b,o,none⟩=V.cell? ⟨b,o,none⟩)/\Below V.heap.size V w') (by kernel_rfl) (qA8 _) (fun hHeld=>?_);refine Zk.go [0,1,2] ?_
  iterate 3
   refine Zk.st (v:=?_) rfl ?_ ?_;rotate_left 1
   .intro w hSw;(try dsimp only at hSw);go_simp;try (with_reducible rfl)
   try simp only[Act.put,zA,zB,zC,zD,zE,zF]
  refine Zk.fin ?_;refine Zk.rd (i:=3) rfl (fun K hK=>?_);go_simp;refine (HN.out _).mono ?_;rintro d wA ⟨rfl,hbA⟩;have hS:=qA0 hHeld hbA;refine hK.out _ _ hS (fun hHeld=>?_);clear hK K;try simp only[Act.put,zA,zB,zC,zD,zE,zF]
  refine Zk.rd (i:=4) rfl (fun K hK=>?_);go_simp;refine (HI.out _).mono ?_;rintro d wB ⟨rfl,hbB⟩;have hS:=qA0 hHeld hbB;refine hK.out _ _ hS (fun hHeld=>?_);clear hK K;try simp only[Act.put,zA,zB,zC,zD,zE,zF]
  refine Zk.go [5,6,7,8,9,10,11,12,13,14,15,16,17] ?_;refine Zk.st (v:=?_) rfl ?_ ?_;rotate_left 1
  .intro w hSw;(try dsimp only at hSw);go_simp;try (with_reducible rfl)
  try simp only[Act.put,zA,zB,zC,zD,zE,zF]
  iterate 3 (refine Zk.un rfl ?_;try simp only[Act.put,zA,zB,zC,zD,zE,zF])
  iterate 2
   refine Zk.st (v:=?_) rfl ?_ ?_;rotate_left 1
   .intro w hSw;(try dsimp only at hSw);go_simp;try (with_reducible rfl)
   try simp only[Act.put,zA,zB,zC,zD,zE,zF]
  iterate 6 (refine Zk.un rfl ?_;try simp only[Act.put,zA,zB,zC,zD,zE,zF])
  refine Zk.st (v:=?_) rfl ?_ ?_;rotate_left 1
  .intro w hSw;(try dsimp only at hSw);go_simp;try (with_reducible rfl)
  try simp only[Act.put,zA,zB,zC,zD,zE,zF]
  refine Zk.fin ?_;refine Zk.rd (i:=18) rfl (fun K hK=>?_);go_simp;refine hK.out _ _ (by assumption) (fun hHeld=>?_);clear hK K;try simp only[Act.put,zA,zB,zC,zD,zE,zF]
  refine gZ (by kernel_rfl) ?_ _;go_wp2;go_ret;exact⟨rfl,BV.out.trans (hHeld.2.mono BV.out.size)⟩
 .by_cases hu:0<=r.u
  .by_cases hu2:r.u<=(r.sn:Int)
   .obtain rfl:t=true:=by rw[<- ht];unfold qI0;rw[ht1];simp[inR,hu,hu2]
    clear ht ht1;go_enter func191,ntmps191;go_upto_region 1 with fail
    rw[<- hV];clear hV;refine gL (S:=fun w'=>(∀b o,b<V.heap.size->w'.cell? ⟨b,o,none⟩=V.cell? ⟨b,o,none⟩)/\Below V.heap.size V w') (by kernel_rfl) (qA8 _) (fun hHeld=>?_);refine Zk.go [0,1,2] ?_
    iterate 3
     refine Zk.st (v:=?_) rfl ?_ ?_;rotate_left 1
     .intro w hSw;(try dsimp only at hSw);go_simp;try (with_reducible rfl)
     try simp only[Act.put,zA,zB,zC,zD,zE,zF]
    refine Zk.fin ?_;refine Zk.rd (i:=3) rfl (fun K hK=>?_);go_simp;refine (HN.out _).mono ?_;rintro d wA ⟨rfl,hbA⟩;have hS:=qA0 hHeld hbA;refine hK.out _ _ hS (fun hHeld=>?_);clear hK K;try simp only[Act.put,zA,zB,zC,zD,zE,zF]
    refine Zk.rd (i:=4) rfl (fun K hK=>?_);go_simp;refine (HI.out _).mono ?_;rintro d wB ⟨rfl,hbB⟩;have hS:=qA0 hHeld hbB;refine hK.out _ _ hS (fun hHeld=>?_);clear hK K;try simp only[Act.put,zA,zB,zC,zD,zE,zF]
    refine Zk.go [5,6,7,8,9,10,11,12,13,14,15,16,17] ?_
    iterate 13
     refine Zk.st (v:=?_) rfl ?_ ?_;rotate_left 1
     .intro w hSw;(try dsimp only at hSw);go_simp;try (with_reducible rfl)
     try simp only[Act.put,zA,zB,zC,zD,zE,zF]
    refine Zk.fin ?_;refine Zk.rd (i:=18) rfl (fun K hK=>?_);go_simp;refine hK.out _ _ (by assumption) (fun hHeld=>?_);clear hK K;try simp only[Act.put,zA,zB,zC,zD,zE,zF]
    refine gZ (by kernel_rfl) ?_ _;go_wp2;go_ret;exact⟨rfl,BV.out.trans (hHeld.2.mono BV.out.size)⟩
   .obtain rfl:t=false:=by rw[<- ht];unfold qI0;rw[ht1];simp[inR,hu,hu2]
    clear ht ht1;go_enter func191,ntmps191;go_upto_region 1 with fail
    rw[<- hV];clear hV;refine gL (S:=fun w'=>(∀b o,b<V.heap.size->w'.cell? ⟨b,o,none⟩=V.cell? ⟨b,o,none⟩)/\Below V.heap.size V w') (by kernel_rfl) (qA8 _) (fun hHeld=>?_);refine Zk.go [0,1,2] ?_
    iterate 3
     refine Zk.st (v:=?_) rfl ?_ ?_;rotate_left 1
     .intro w hSw;(try dsimp only at hSw);go_simp;try (with_reducible rfl)
     try simp only[Act.put,zA,zB,zC,zD,zE,zF]
    refine Zk.fin ?_;refine Zk.rd (i:=3) rfl (fun K hK=>?_);go_simp;refine (HN.out _).mono ?_;rintro d wA ⟨rfl,hbA⟩;have hS:=qA0 hHeld hbA;refine hK.out _ _ hS (fun hHeld=>?_);clear hK K;try simp only[Act.put,zA,zB,zC,zD,zE,zF]
    refine Zk.rd (i:=4) rfl (fun K hK=>?_);go_simp;refine (HI.out _).mono ?_;rintro d wB ⟨rfl,hbB⟩;have hS:=qA0 hHeld hbB;refine hK.out _ _ hS (fun hHeld=>?_);clear hK K;try simp only[Act.put,zA,zB,zC,zD,zE,zF]
    refine Zk.go [5,6,7,8,9,10,11,12,13,14,15,16,17] ?_
    iterate 13
     refine Zk.st (v:=?_) rfl ?_ ?_;rotate_left 1
     .intro w hSw;(try dsimp only at hSw);go_simp;try (with_reducible rfl)
     try simp only[Act.put,zA,zB,zC,zD,zE,zF]
    refine Zk.fin ?_;refine Zk.rd (i:=18) rfl (fun K hK=>?_);go_simp;refine hK.out _ _ (by assumption) (fun hHeld=>?_);clear hK K;try simp only[Act.put,zA,zB,zC,zD,zE,zF]
    refine gZ (by kernel_rfl) ?_ _;go_wp2;go_ret;exact⟨rfl,BV.out.trans (hHeld.2.mono BV.out.size)⟩
  .obtain rfl:t=false:=by rw[<- ht];unfold qI0;rw[ht1];simp[inR,hu]
   clear ht ht1;go_enter func191,ntmps191;go_upto_region 1 with fail
   rw[<- hV];clear hV;refine gL (S:=fun w'=>(∀b o,b<V.heap.size->w'.cell? ⟨b,o,none⟩=V.cell? ⟨b,o,none⟩)/\Below V.heap.size V w') (by kernel_rfl) (qA8 _) (fun hHeld=>?_);refine Zk.go [0,1,2] ?_
   iterate 3
    refine Zk.st (v:=?_) rfl ?_ ?_;rotate_left 1
    .intro w hSw;(try dsimp only at hSw);go_simp;try (with_reducible rfl)
    try simp only[Act.put,zA,zB,zC,zD,zE,zF]
   refine Zk.fin ?_;refine Zk.rd (i:=3) rfl (fun K hK=>?_);go_simp;refine (HN.out _).mono ?_;rintro d wA ⟨rfl,hbA⟩;have hS:=qA0 hHeld hbA;refine hK.out _ _ hS (fun hHeld=>?_);clear hK K;try simp only[Act.put,zA,zB,zC,zD,zE,zF]
   refine Zk.rd (i:=4) rfl (fun K hK=>?_);go_simp;refine (HI.out _).mono ?_;rintro d wB ⟨rfl,hbB⟩;have hS:=qA0 hHeld hbB;refine hK.out _ _ hS (fun hHeld=>?_);clear hK K;try simp only[Act.put,zA,zB,zC,zD,zE,zF]
   refine Zk.go [5,6,7,8,9,10,11,12,13,14,15,16,17] ?_
   iterate 6
    refine Zk.st (v:=?_) rfl ?_ ?_;rotate_left 1
    .intro w hSw;(try dsimp only at hSw);go_simp;try (with_reducible rfl)
    try simp only[Act.put,zA,zB,zC,zD,zE,zF]
   iterate 6 (refine Zk.un rfl ?_;try simp only[Act.put,zA,zB,zC,zD,zE,zF])
   refine Zk.st (v:=?_) rfl ?_ ?_;rotate_left 1
   .intro w hSw;(try dsimp only at hSw);go_simp;try (with_reducible rfl)
   try simp only[Act.put,zA,zB,zC,zD,zE,zF]
   refine Zk.fin ?_;refine Zk.rd (i:=18) rfl (fun K hK=>?_);go_simp;refine hK.out _ _ (by assumption) (fun hHeld=>?_);clear hK K;try simp only[Act.put,zA,zB,zC,zD,zE,zF]
   refine gZ (by kernel_rfl) ?_ _;go_wp2;go_ret;exact⟨rfl,BV.out.trans (hHeld.2.mono BV.out.size)⟩
