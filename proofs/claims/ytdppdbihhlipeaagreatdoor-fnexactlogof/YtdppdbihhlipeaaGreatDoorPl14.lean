/- Contracts. -/
import Derived.Test.YtdppdbihhlipeaaGreatDoorPl13
import Derived.Deep.WholeRow
namespace Go.Proofs.YtdppdbihhlipeaaGreatDoor
set_option maxRecDepth 100000
set_option maxHeartbeats 8000000
open Go.RowKit
set_option linter.unusedVariables false
set_option linter.unusedSimpArgs false

def pgTo (xs:List StI) (k:Nat):List Int:=qJ4 xs k++List.replicate (240 - k * 6) 0
theorem pgTo_next {xs:List StI} {k:Nat} {x:StI} (h:xs[k]? = some x) (hk:k < 40):putZ (pgTo xs k) (k * 6) (QE2 x)=pgTo xs (k+1):=by
 have hl:(qJ4 xs k).length=k * 6:=qO3 (by have:=(List.getElem?_eq_some_iff.1 h).1;omega)
 unfold putZ pgTo
 rw [qW9 h,packL_len,List.take_left' hl,List.drop_append,List.drop_of_length_le (by omega),List.nil_append,List.drop_replicate,hl]
 congr 2
 omega
theorem pgTo_take {xs:List StI} {k:Nat} (h:k≤xs.length):(pgTo xs k).take (k * 6)=qJ4 xs k:=by
 unfold pgTo
 exact List.take_left' (qO3 h)
theorem packTo_at {xs:List StI} {k j:Nat} {y:StI} (hk:k≤xs.length) (hj:j < k) (hy:xs[j]? = some y):(qJ4 xs k)[j * 6]? = some y.k:=by
 induction k with
 | zero=>omega
 | succ k ih =>
  obtain ⟨x,hx⟩:∃ x,xs[k]? = some x:=⟨_,List.getElem?_eq_getElem (by omega)⟩
  have hl:(qJ4 xs k).length=k * 6:=qO3 (by omega)
  rw [qW9 hx]
  by_cases e:j=k
  ·subst e
   rw [hx] at hy
   cases hy
   rw [List.getElem?_append_right (by omega),hl,Nat.sub_self]
   rfl
  ·rw [List.getElem?_append_left (by omega)]
   exact ih (by omega) (by omega)
theorem fc_all {xs:List StI} {k j:Nat} {y:StI} (h:QT0 xs k=0) (hj:j < k) (hy:xs[j]? = some y):qB8 y=0:=by
 induction k with
 | zero=>omega
 | succ k ih =>
  by_cases q:QT0 xs k=0
  ·by_cases e:j=k
   ·subst e
    rw [QN9 q hy] at h
    exact h
   ·exact ih q (by omega)
  ·simp only [QT0] at h
   rw [if_neg q] at h
   exact absurd h q
theorem pg_end {xs:List StI} {k:Nat} (hk:k≤xs.length) (h40:k≤40) (h:QT0 xs k=0):EndAt (pgTo xs k) k:=by
 have hl:(qJ4 xs k).length=k * 6:=qO3 hk
 refine ⟨h40,fun j x hj hx=>?_,fun q=>?_⟩
 ·obtain ⟨y,hy⟩:∃ y,xs[j]? = some y:=⟨_,List.getElem?_eq_getElem (by omega)⟩
  unfold pgTo at hx
  rw [List.getElem?_append_left (by omega),packTo_at hk hj hy] at hx
  cases hx
  have:=(QK2 (fc_all h hj hy)).1
  omega
 ·unfold pgTo
  rw [List.getElem?_append_right (by omega),hl,Nat.sub_self,List.getElem?_replicate,if_pos (by omega)]
theorem owns_some {w:World} {B:Nat} {e:TypeId} {size:Nat} {a:Option Addr} {n cap:Nat} {xs:List Value} (h:w.ownsRow B e size (.slice a n cap) n xs) (hn:0 < n):∃ g,a=some ⟨g,0,none⟩:=by
 rcases h.2 with ⟨h',h0⟩ | ⟨g,cap',cur,h',_⟩
 ·omega
 ·simp at h'
  exact ⟨g,h'.1⟩
def zeroPg:List Int:=List.replicate 240 0
theorem Tryz.infoZ114:(Tryz.prog.info? 114).map (fun i=>(i.zero,i.size))=some (some (.agg (vI zeroPg).toArray),240):=by kernel_rfl
theorem pg_zero (w:World):(zeroValue 114).run Tryz.prog w = .ok (.agg (vI zeroPg).toArray) w:=(zero_of_info Tryz.infoZ114).1 w
theorem pg_new (w:World) (zs:List Int) (h:zs.length=240):QY0 (w.alloc (.cells (vI zs).toArray 114)) w.heap.size zs:=by
 refine ⟨?_,h⟩
 show (w.heap.push _)[w.heap.size]? = _
 simp
structure IPL (w:World) (xs:List StI) (k:Nat) (wr:World):Prop where
 rs:qI3 w.heap.size [.int .i64 0,.slice none 0 0] wr
 pg:QY0 wr (w.heap.size+1) (pgTo xs k)
 bl:Below w.heap.size w wr
theorem IPL.below {w:World} {xs:List StI} {k:Nat} {wr W:World} (h:IPL w xs k wr) (hb:Below wr.heap.size wr W):IPL w xs k W :=
 ⟨h.rs.below (by have:=h.pg.lt;omega) hb,h.pg.below hb,h.bl.trans (hb.mono h.bl.size)⟩
theorem QV8 (a:Option Addr) (n cap:Nat) (xs:List StI) (w:World) (hn:n≤1048576) (h:qL2 w a n xs):QG7 35 a n cap (qJ0 xs) (plL xs) w:=by
 have HX:=QC6 h
 have hxl:xs.length=n:=h.1
 have HXL:=QC6 hxl
 have hni:(n:Int)≤1048576:=by omega
 obtain ⟨K,hK⟩:∃ K,qJ0 xs=K:=⟨_,rfl⟩
 obtain ⟨Y,hY⟩:∃ Y,plL xs=Y:=⟨_,rfl⟩
 have HK:Hid (qJ0 xs=K∧plL xs=Y):=⟨hK,hY⟩
 unfold QG7
 rw [hK,hY]
 clear h hK hY
 by_cases h40:40 < n
 ·have h40':(40:Int) < (n:Int):=by omega
  have HE:Hid (K=2∧Y=[]):=by
   have e:qJ0 xs=2:=by unfold qJ0;rw [if_pos (by rw [HXL.out];exact h40)]
   refine ⟨by rw [← HK.out.1,e],?_⟩
   rw [← HK.out.2]
   unfold plL
   rw [e];rfl
  clear HK hxl
  go_enter Tryz.func35,Tryz.ntmps35
  go_wp2_with fail
  refine bodyPost_ret (v:=.agg #[.int .i64 2,.slice none 0 0]) (by simp [results,Tryz.results35,go_sem]) rfl ?_
  rw [HE.out.1,HE.out.2]
  exact ⟨none,0,rfl,World.ownsRow_nil _ _ _ _,by go_grown⟩
 have h40':¬ ((40:Int) < (n:Int)):=by omega
 obtain ⟨V,hV⟩:∃ V,V=(w.alloc (.cells #[.int .i64 0,.slice none 0 0] 31)).alloc (.cells (vI zeroPg).toArray 114):=⟨_,rfl⟩
 have P0:Hid (IPL w xs 0 V):=by
  have A0:Below w.heap.size w V:=by rw [hV];exact (zN).alloc (by simp) _
  refine ⟨?_,?_,A0⟩
  ·rw [hV]
   exact qI3.below (qG8 w _ _) (by simp) (zN)
  ·rw [hV]
   have q:=pg_new (w.alloc (.cells #[.int .i64 0,.slice none 0 0] 31)) zeroPg rfl
   rw [World.size_alloc] at q
   exact q
 have hz:=pg_zero
 clear hxl
 go_enter Tryz.func35,Tryz.ntmps35
 go_upto_region 4 with fail
 rw [← hV]
 clear hV hz
 go_wp2_with fail
 go_loopw [13] (fun i wr=>∃ k:Nat,k≤n∧i = .int .i64 (k:Int)∧Hid (QT0 xs k=0)∧Hid (IPL w xs k wr)) (fun i _=>n - (intOf i).toNat)
 case atStart=>exact ⟨0,Nat.zero_le _,rfl,rfl,P0⟩
 case round =>
  clear P0
  obtain ⟨k,hk,rfl,HC,HP⟩:=hrel
  by_cases hlt:k < n
  ·have hlt':(k:Int) < (n:Int):=by omega
   have hk0:(0:Int)≤(k:Int):=by omega
   obtain ⟨b,off,x,ea,hx,hat,hbl⟩:=(HX.out.below HP.out.bl).at hlt
   subst ea
   have HXK:=QC6 hx
   obtain ⟨x0,x1,x2,x3,x4⟩:=hat
   obtain ⟨d,hd⟩:∃ d,qB8 x=d:=⟨_,rfl⟩
   have HD:=QC6 hd
   obtain ⟨Z,hZ⟩:∃ Z,Z=wr.alloc (.cells #[.int .i64 x.k,.int .i64 x.e,.int .i64 x.f,.int .i64 x.s,.int .i64 x.n] 85):=⟨_,rfl⟩
   have AZ:Below wr.heap.size wr Z:=by rw [hZ];exact zN
   have PZ:=QC6 (HP.out.below AZ)
   have XZ:Hid (qC4 wr.heap.size (wr.heap.size+1) (qE3 wr.heap.size [.int .i64 x.k,.int .i64 x.e,.int .i64 x.f,.int .i64 x.s,.int .i64 x.n]) Z):=by rw [hZ];exact qD6 wr #[.int .i64 x.k,.int .i64 x.e,.int .i64 x.f,.int .i64 x.s,.int .i64 x.n] 85
   clear hx hd AZ
   go_upto_region 7 with fail
   rw [← hZ]
   clear hZ x0 x1 x2 x3 x4
   generalize wr.heap.size=bx at XZ ⊢
   have y0:=XZ.out.out 0 _ rfl
   have y1:=XZ.out.out 1 _ rfl
   have y2:=XZ.out.out 2 _ rfl
   have y3:=XZ.out.out 3 _ rfl
   have y4:=XZ.out.out 4 _ rfl
   have hyl:bx < Z.heap.size:=XZ.out.le
   by_cases hd0:d=0
   ·subst hd0
    have HF:=QC6 (implPack_ok x Z HD.out)
    unfold QG8 at HF
    have HC6:Hid (QT0 xs (k+1)=0):=by show _=_;rw [QN9 HC.out HXK.out];exact HD.out
    go_wp2_with fail
    refine HF.out.mono ?_
    rintro e w1 ⟨ya,yc,rfl,how,hb1⟩
    rw [show (QE2 x).length=6 from rfl] at how ⊢
    obtain ⟨yb,rfl⟩:=owns_some how (by omega)
    have P1:=QC6 (PZ.out.below hb1)
    have O1:=QC6 how
    clear how hb1 HF y0 y1 y2 y3 y4 hyl
    obtain ⟨U,hU⟩:∃ U,U=w1.alloc (.cells #[.int .i64 0,.slice (some ⟨yb,0,none⟩) 6 yc] 31):=⟨_,rfl⟩
    have AU:Below w1.heap.size w1 U:=by rw [hU];exact zN
    have PU:=QC6 (P1.out.below AU)
    have OU:Hid (qF8 U (some ⟨yb,0,none⟩) 6 (QE2 x)):=(owns_ints rfl O1.out).below AU
    have XU:Hid (qC4 w1.heap.size (w1.heap.size+1) (qE3 w1.heap.size [.int .i64 0,.slice (some ⟨yb,0,none⟩) 6 yc]) U):=by rw [hU];exact qD6 w1 #[.int .i64 0,.slice (some ⟨yb,0,none⟩) 6 yc] 31
    clear AU
    go_upto_region 8 with fail
    rw [← hU]
    clear hU
    generalize w1.heap.size=bu at XU ⊢
    have u0:=XU.out.out 0 _ rfl
    have u1:=XU.out.out 1 _ rfl
    have hul:bu < U.heap.size:=XU.out.le
    have HPT:Hid (Calls Tryz.prog 66 #[.pointer (some ⟨w.heap.size+1,0,none⟩),.int .i64 (k:Int),.slice (some ⟨yb,0,none⟩) 6 yc] U fun e w'=>e = .returned (.tuple #[])∧QY0 w' (w.heap.size+1) (putZ (pgTo xs k) (k * 6) (QE2 x))∧Below (w.heap.size+1) U w'):=pagePut_c (w.heap.size+1) k yb 0 yc _ _ U PU.out.pg (by omega) OU.out
    go_wp2_with fail
    refine HPT.out.mono ?_
    rintro e w2 ⟨rfl,hp2,hb2⟩
    have HN:Hid (IPL w xs (k+1) w2):=⟨QO2 PU.out.rs (hb2.block _ (by omega)),by rw [← pgTo_next HXK.out (by omega)];exact hp2,PU.out.bl.trans (hb2.mono (by omega))⟩
    clear hp2 hb2 HPT u0 u1 hul
    go_wp2_with fail
    exact ⟨⟨k+1,by omega,by go_num,HC6,HN⟩,by simp [intOf];omega⟩
   ·have HF:=QC6 (implPack_bad x d Z HD.out hd0)
    unfold QG8 at HF
    have hdb:(d != 0)=true:=by simp [hd0]
    have HE:Hid (K=d∧Y=[]):=by
     have e1:QT0 xs (k+1)=d:=by rw [QN9 HC.out HXK.out];exact HD.out
     have e:qJ0 xs=d:=by
      unfold qJ0
      rw [if_neg (by rw [HXL.out];exact h40),HXL.out,fc_stay (k:=k+1) (by rw [e1];exact hd0) hlt,e1]
     refine ⟨by rw [← HK.out.1,e],?_⟩
     rw [← HK.out.2]
     unfold plL
     rw [if_neg (by rw [e];exact hd0)]
    clear HK hd0
    go_wp2_with fail
    refine HF.out.mono ?_
    rintro e w1 ⟨ya,yc,rfl,how,hb1⟩
    have P1:=QC6 (PZ.out.below hb1)
    clear how hb1 HF y0 y1 y2 y3 y4 hyl
    have c20:=P1.out.rs.1 0 _ rfl
    have c21:=P1.out.rs.1 1 _ rfl
    have f20:=P1.out.rs.2 0
    have f21:=P1.out.rs.2 1
    have h21:w.heap.size < w1.heap.size:=by have:=P1.out.pg.lt;omega
    go_wp2_with fail
    refine bodyPost_ret (v:=.agg #[.int .i64 d,.slice none 0 0]) (by simp [results,Tryz.results35,go_sem,c20,c21,h21]) rfl ?_
    rw [HE.out.1,HE.out.2]
    refine ⟨none,0,rfl,World.ownsRow_nil _ _ _ _,?_⟩
    have q:=P1.out.bl
    have hq:=P1.out.bl.size
    first
     | exact ((q.alloc hq _).setCell (Nat.le_refl _) _).setCell (Nat.le_refl _) _
     | exact ((q.setCell (Nat.le_refl _) _).setCell (Nat.le_refl _) _).alloc (by simp;omega) _
  ·have hkn:k=n:=by omega
   have hlt':¬ ((k:Int) < (n:Int)):=by omega
   have HE:Hid (K=0∧Y=qJ4 xs k):=by
    have e:qJ0 xs=0:=by
     unfold qJ0
     rw [if_neg (by rw [HXL.out];exact h40),HXL.out,← hkn]
     exact HC.out
    refine ⟨by rw [← HK.out.1,e],?_⟩
    rw [← HK.out.2]
    unfold plL
    rw [if_pos e,HXL.out,hkn]
   have HLN:Hid ((qJ4 xs k).length=k * 6):=qO3 (by rw [HXL.out];exact hk)
   have HTK:Hid ((pgTo xs k).take (k * 6)=qJ4 xs k):=pgTo_take (by rw [HXL.out];exact hk)
   have HWD:=QC6 (pageWords_c (w.heap.size+1) k (pgTo xs k) wr HP.out.pg (pg_end (by rw [HXL.out];exact hk) (by omega) HC.out))
   clear HK hkn
   go_wp2_with fail
   refine HWD.out.mono ?_
   rintro e w1 ⟨ra,rc,rfl,how,hb1⟩
   rw [HTK.out] at how
   have O1:=QC6 how
   have P1:=QC6 (HP.out.below hb1)
   clear how hb1 HWD
   have c20:=P1.out.rs.1 0 _ rfl
   have c21:=P1.out.rs.1 1 _ rfl
   have f20:=P1.out.rs.2 0
   have f21:=P1.out.rs.2 1
   have h21:w.heap.size < w1.heap.size:=by have:=P1.out.pg.lt;omega
   have h2w:w.heap.size < wr.heap.size:=by have:=HP.out.pg.lt;omega
   go_wp2_with fail
   refine bodyPost_ret (v:=.agg #[.int .i64 0,.slice ra (k * 6) rc]) (by simp [results,Tryz.results35,go_sem,c20,c21,h21]) rfl ?_
   rw [HE.out.1,HE.out.2,HLN.out]
   refine ⟨ra,rc,rfl,?_,(P1.out.bl.setCell (Nat.le_refl _) _).setCell (Nat.le_refl _) _⟩
   exact owns_low (qN1 (qN1 O1.out h2w _) h2w _) (by omega)

end Go.Proofs.YtdppdbihhlipeaaGreatDoor
