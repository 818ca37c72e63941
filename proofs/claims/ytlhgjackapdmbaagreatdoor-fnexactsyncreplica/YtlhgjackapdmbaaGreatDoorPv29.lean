/- Contracts. -/
import Derived.Test.YtlhgjackapdmbaaGreatDoorPv27
import Derived.Test.YtlhgjackapdmbaaGreatDoorPv28
namespace Go.Proofs.YtlhgjackapdmbaaGreatDoor
set_option maxRecDepth 100000
set_option maxHeartbeats 8000000
open Go.RowKit
set_option linter.unusedVariables false
set_option linter.unusedSimpArgs false

theorem nf_next {E:qI3} {cs:List qA4} {said:List StI} {x:StI} (hE:E.es=cs.map (·.e)) (hn:0≤x.n) (hk:qQ4 said x.k x.e=false):qD0 E said x=nfC cs x.e x.n:=by
 have hl:E.es.length=cs.length:=by rw [hE,List.length_map]
 have hl:E.es.length=cs.length:=hl
 by_cases h1:(cs.length:Int)≤x.n
 ·have e1:nfC cs x.e x.n=3:=by unfold nfC;rw [if_pos (.inr h1)]
  rw [e1]
  unfold qD0
  rw [if_neg (by rw [hk];simp),if_pos (by rw [hl];exact h1)]
 ·have e2:nfC cs x.e x.n=if (cs[x.n.toNat]?.getD default).e≠x.e+1 then 10 else 0:=by unfold nfC;rw [if_neg (by omega)]
  have hlt:x.n.toNat < cs.length:=by omega
  have hc:cs[x.n.toNat]? = some cs[x.n.toNat]:=List.getElem?_eq_getElem hlt
  rw [e2]
  unfold qD0
  rw [if_neg (by rw [hk];simp),if_neg (by rw [hl];exact h1),es_at hE hc,hc]
  rfl
theorem step_c (E:qI3) (b:Nat) (lv:Value) (sa:Option Addr) (n sc:Nat) (said:List StI) (a:Option Addr) (m cap:Nat) (cs:List qA4) (x:StI) (w:World) (hE:E.es=cs.map (·.e)) (hs:qV6 w b (.slice a m cap) (.slice sa n sc) lv) (h:qL9 w sa n said) (hn:n≤1048576) (hc:qA6 w a m cs) (hm8:m≤8) (he:1≤x.e∧x.e≤9) (hxn:0≤x.n∧x.n≤7) :
  Calls Tryz.prog 84 #[.pointer (some ⟨b,0,none⟩),.agg #[.int .i64 x.k,.int .i64 x.e,.int .i64 x.f,.int .i64 x.s,.int .i64 x.n]] w fun d w'=>d = .returned (.int .i64 (qD0 E said x))∧Below w.heap.size w w':=by
 obtain ⟨V,hV⟩:∃ V,V=w.alloc (.cells #[.int .i64 x.k,.int .i64 x.e,.int .i64 x.f,.int .i64 x.s,.int .i64 x.n] 43):=⟨_,rfl⟩
 have HV:Hid (V=w.alloc (.cells #[.int .i64 x.k,.int .i64 x.e,.int .i64 x.f,.int .i64 x.s,.int .i64 x.n] 43)):=hV
 have B0:Below w.heap.size w V:=by rw [hV];exact zN
 have hwl:w.heap.size < V.heap.size:=by rw [hV];simp
 have HX:qS1 V w.heap.size 0 x:=by rw [hV];exact qS1.new w x _
 have hS0:=hs.below B0
 have hbl:=hS0.lt
 have c0':=hS0.c0
 have c1':=hS0.c1
 have HSO:Hid (∀ w2,KR V w2→Calls Tryz.prog 106 #[.slice sa n sc,.int .i64 x.k,.int .i64 x.e] w2 fun d w'=>(∃ i:Int,d = .returned (.int .i64 i)∧qZ1 said x.k x.e i)∧Below w2.heap.size w2 w'):=fun w2 q=>QS4 sa n sc said x.k x.e w2 hn ((h.below B0).below q.2)
 have HC1:Hid (qA6 V a m cs):=hc.below B0
 have HB0:Hid (Below w.heap.size w V):=B0
 have HL:Hid (E.es.length=m):=by show E.es.length=m;rw [hE,List.length_map];exact hc.len
 have HE:Hid (E.es=cs.map (·.e)):=hE
 have hm':(m:Int)≤8:=by omega
 obtain ⟨he1,he9⟩:=he
 obtain ⟨hn0,hn7⟩:=hxn
 obtain ⟨x0,r1,x2,x3,r4⟩:=HX
 simp only [Nat.zero_add] at x0 r1 r4
 clear hs h hc hE B0 hS0 x2 x3
 obtain ⟨v,hv⟩:∃ v,qD0 E said x=v:=⟨_,rfl⟩
 have HVE:Hid (qD0 E said x=v):=hv
 rw [hv]
 clear hv
 go_enter Tryz.func84,Tryz.ntmps84
 go_upto_region 1 with fail
 rw [← hV]
 clear hV HV
 go_region_held3 (fun w'=>KR V w') (first | exact hS | exact qB6 _)
  (first | (go_at_call 106;refine (HSO.out _ (by assumption)).mono ?_;rintro d w' ⟨⟨i,rfl,hi⟩,hb2⟩;have hS:=qA8 (by assumption) hb2))
 have hsl:=QH8 hi
 by_cases hi0:0≤i
 ·have HV':Hid (v=6):=by show v=6;rw [← HVE.out];unfold qD0;rw [if_pos (by rw [← hsl];exact decide_eq_true hi0)]
  clear hi hsl
  go_wp2_with fail
  go_ret
  exact ⟨by rw [HV'.out];rfl,HB0.out.trans (hS.2.mono HB0.out.size)⟩
 ·have hkf:qQ4 said x.k x.e=false:=by rw [← hsl];exact decide_eq_false hi0
  clear hi hsl
  have HNF:Hid (∀ w2,KR V w2→Calls Tryz.prog 111 #[.slice a m cap,.int .i64 x.e,.int .i64 x.n] w2 fun d w'=>d = .returned (.int .i64 v)∧Below w2.heap.size w2 w'):=fun w2 q=>by
   rw [← HVE.out,nf_next HE.out hn0 hkf]
   exact nextFault_c a m cap cs x.e x.n w2 (by omega) ⟨by omega,by omega⟩ (HC1.out.below q.2)
  clear hkf
  go_wp2_with fail
  go_region_held3 (fun w'=>KR V w') (first | exact hS | exact qA8 hS (Below.refl _ _).drew | exact qB6 _)
   (first | (go_at_call 111;refine (HNF.out _ (by assumption)).mono ?_;rintro d w' ⟨rfl,hb2⟩;have hS:=qA8 (by assumption) hb2))
  go_wp2_with fail
  go_ret
  exact ⟨rfl,HB0.out.trans (hS.2.mono HB0.out.size)⟩

end Go.Proofs.YtlhgjackapdmbaaGreatDoor
