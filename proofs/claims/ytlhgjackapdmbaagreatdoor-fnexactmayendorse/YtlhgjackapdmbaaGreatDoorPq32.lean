/- Contracts. -/
import Derived.Test.YtlhgjackapdmbaaGreatDoorPq23
import Derived.BigRegion
import Derived.Test.YtlhgjackapdmbaaGreatDoorPq16
import Derived.RegionIn
import Derived.BigRegionIn
import Derived.Test.YtlhgjackapdmbaaGreatDoorPq21
import Derived.Deep.RegionWith
import Derived.Shelf.SlMaps.Clone
namespace Go.Proofs.YtlhgjackapdmbaaGreatDoor
set_option maxRecDepth 100000
set_option maxHeartbeats 8000000
open Go.RowKit
set_option linter.unusedVariables false
set_option linter.unusedSimpArgs false

section
open Go.RowKit Go.Maps
open Go.ChangeMaps (setBlock heap_setBlock_same heap_setBlock_other)
theorem look_at {w:World} {b:Nat} {es:Array MapEntry} {clock:Nat} (hb:w.heap[b]? = some (.map es clock)) (hk:∀ e∈es.toList,∃ l,keyOf Tryz.prog 112 e.key=some l) {r:RoI} (hr:roW r) {v:Value}
  (hv:∀ e∈es.toList,e.key=roV r→e.val=v) (hex:∃ e∈es.toList,e.key=roV r):(Instr.lookup 240 (.map (some b)) (roV r) false).run Tryz.prog w = .ok v w:=by
 rcases qV8.find w (qP2 hr) es.toList hk with ⟨_,h2⟩ | ⟨j,e0,h1,h2,h3⟩
 ·obtain ⟨e,he,hke⟩:=hex
  exact absurd hke (h2 e he)
 ·have:=hv e0 (List.mem_of_getElem? h2) h3
  simp [Instr.lookup,run_underlying QE5,MapKept.run_getObj_map hb,qV8.check w _ (qP2 hr),h1,Result.andThen,this]
structure EntryIs (b:Nat) (f:RoI→Int) (r:RoI) (es es1:Array MapEntry) (clock clock1 st:Nat):Prop where
 look0:∀ W:World,W.heap[b]? = some (.map es clock)→(Instr.lookup 240 (.map (some b)) (roV r) false).run Tryz.prog W = .ok (.int .u8 (f r)) W
 ask:∀ W:World,W.heap[b]? = some (.map es clock)→(Instr.mapEntry 240 (.map (some b)) (roV r)).run Tryz.prog W = .ok (.tuple #[.int .u8 (f r),goInt st]) (setBlock W b (.map es1 clock1))
 look1:∀ W:World,W.heap[b]? = some (.map es1 clock1)→(Instr.lookup 240 (.map (some b)) (roV r) false).run Tryz.prog W = .ok (.int .u8 (f r)) W
 write:∀ (W:World) (s:Int),W.heap[b]? = some (.map es1 clock1)→qJ8 s→s≠0→∃ es2 clock2,(Instr.entryStore 240 (.map (some b)) (goInt st) (.int .u8 s)).run Tryz.prog W = .ok () (setBlock W b (.map es2 clock2))∧GM (setBlock W b (.map es2 clock2)) b (setF f r s)
theorem fit_of {w:World} {b:Nat} {f:RoI→Int} (h:GM w b f):∃ es clock,w.heap[b]? = some (.map es clock)∧∀ W:World,W.heap[b]? = some (.map es clock)→GM W b f:=by
 obtain ⟨h1,D,n,⟨es,clock,hb,F,hs,hD⟩,hv⟩:=h
 exact ⟨es,clock,hb,fun W hW=>⟨h1,D,n,⟨es,clock,hW,F,hs,hD⟩,hv⟩⟩
theorem entry_is {w:World} {b:Nat} {f:RoI→Int} (h:GM w b f) {r:RoI} (hr:qC8 r.1 r.2=true):∃ es es1 clock clock1 st,w.heap[b]? = some (.map es clock)∧EntryIs b f r es es1 clock clock1 st:=by
  have hrw:=QI3 hr
  obtain ⟨es,clock,hb,hGM⟩:=fit_of h
  obtain ⟨hfn,D,n,ho,hv⟩:=h
  have ho40:=(own_size hfn ho hv).1
  obtain ⟨es',clock',hb',F,hsz,hD⟩:=ho40
  rw [hb] at hb'
  cases hb'
  have hl0:∀ W:World,W.heap[b]? = some (.map es clock)→(Instr.lookup 240 (.map (some b)) (roV r) false).run Tryz.prog W = .ok (.int .u8 (f r)) W:=fun W hW=>QA7 (hGM W hW) hrw
  have hkeys:∀ e∈es.toList,∃ l,keyOf Tryz.prog 112 e.key=some l:=F.keys
  obtain ⟨s1,s2,s3⟩:=(MapKept.stamped_iff es clock).1 F.stamped
  -- what is written, out of the law of the two steps
  have wr:∀ (es1:Array MapEntry) (clock1 st:Nat),(∀ (w2:World) (val:Value),w2.heap[b]? = some (.map es1 clock1)→∃ es' clock',(Instr.entryStore 240 (.map (some b)) (goInt st) val).run Tryz.prog w2 = .ok () (setBlock w2 b (.map es' clock')) ∧
        (Instr.mapUpdate 240 (.map (some b)) (roV r) val).run Tryz.prog w = .ok () (setBlock w b (.map es' clock'))) →
      ∀ (W:World) (s:Int),W.heap[b]? = some (.map es1 clock1)→qJ8 s→s≠0→∃ es2 clock2,(Instr.entryStore 240 (.map (some b)) (goInt st) (.int .u8 s)).run Tryz.prog W = .ok () (setBlock W b (.map es2 clock2))∧GM (setBlock W b (.map es2 clock2)) b (setF f r s):=by
    intro es1 clock1 st h3 W s hW hs hs0
    obtain ⟨es2,clock2,h4,h5⟩:=h3 W (.int .u8 s) hW
    have ho40:w.ownsMap Tryz.prog 112 elU b 40 D:=⟨es,clock,hb,F,hsz,hD⟩
    obtain ⟨w',h6,h7,_⟩:=ho40.update QG3 QE5 (by unfold maxLen;omega) (qP2 hrw) (elU_int hs)
    rw [h5] at h6
    cases h6
    refine ⟨es2,clock2,h4,?_⟩
    refine qO9 (w:=setBlock w b (.map es2 clock2)) (b:=b) ?_ (by rw [heap_setBlock_same hW,heap_setBlock_same hb])
    refine ⟨⟨fun r'=>?_,fun r' hn=>?_⟩,_,_,h7,view_put ?_ hv hrw hs0⟩
    · unfold setF
      split
      · exact hs
      · exact hfn.st _
    · unfold setF at hn
      split at hn
      · rename_i e;rw [e];exact hr
      · exact hfn.ro _ hn
    · exact ⟨_,hD⟩
  obtain ⟨v0,st,es1,clock1,h1,h2,h3⟩:=WideElems.entry_then_store qV8 QE5 QR6 hb F (qP2 hrw)
  have h3':=wr es1 clock1 st h3
  clear h3 wr
  rcases qV8.find w (qP2 hrw) es.toList hkeys with ⟨g1,g2⟩ | ⟨j,e0,g1,g2,g3⟩
  · -- the key is not there
    have ez:f r=0:=by
      have:=hl0 w hb
      simp [Instr.lookup,run_underlying QE5,MapKept.run_getObj_map hb,qV8.check w _ (qP2 hrw),g1,QR6,Result.andThen] at this
      exact this.symm
    have run:∀ W:World,W.heap[b]? = some (.map es clock)→(Instr.mapEntry 240 (.map (some b)) (roV r)).run Tryz.prog W = .ok (.tuple #[.int .u8 0,goInt clock]) (setBlock W b (.map (es.push ⟨roV r,.int .u8 0,clock⟩) (clock+1))):=by
      intro W hW
      rcases qV8.find W (qP2 hrw) es.toList hkeys with ⟨q1,q2⟩ | ⟨j,e0,q1,q2,q3⟩
      · simp [Instr.mapEntry,run_underlying QE5,MapKept.run_getObj_map hW,qV8.check W false (qP2 hrw),q1,QR6,MapKept.run_setObj_map _ hW,Result.andThen,setBlock]
      · exact absurd q3 (g2 e0 (List.mem_of_getElem? q2))
    have e1:=run w hb
    rw [h1] at e1
    have e2:=(Result.ok.inj e1).2
    have e3:=(Result.ok.inj e1).1
    have e4:es1=es.push ⟨roV r,.int .u8 0,clock⟩∧clock1=clock+1:=by
      have : (setBlock w b (.map es1 clock1)).heap[b]? = (setBlock w b (.map (es.push ⟨roV r,.int .u8 0,clock⟩) (clock+1))).heap[b]? := by rw [e2]
      rw [heap_setBlock_same hb,heap_setBlock_same hb] at this
      exact ⟨(Obj.map.inj (Option.some.inj this)).1,(Obj.map.inj (Option.some.inj this)).2⟩
    obtain ⟨rfl,rfl⟩:=e4
    have e5:st=clock:=by
      simp [goInt] at e3
      omega
    rw [e5] at h3'
    refine ⟨es,_,clock,_,_,hb,⟨hl0,fun W hW=>by rw [run W hW,ez],fun W hW=>?_,h3'⟩⟩
    refine look_at hW (fun e he=>?_) hrw (fun e he hke=>?_) ⟨⟨roV r,.int .u8 0,clock⟩,by simp,rfl⟩
    · simp at he
      rcases he with he | rfl
      · exact hkeys e (by simpa using he)
      · exact ⟨_,qP2 hrw⟩
    · simp at he
      rcases he with he | rfl
      · exact absurd hke (g2 e (by simpa using he))
      · rw [ez]
  · -- the key is there
    have hj:es[j]? = some e0:=by simpa using g2
    have hm0:e0∈es.toList:=List.mem_of_getElem? g2
    have hval:e0.val = .int .u8 (f r):=by
      have:=hl0 w hb
      simp [Instr.lookup,run_underlying QE5,MapKept.run_getObj_map hb,qV8.check w _ (qP2 hrw),g1,Result.andThen] at this
      exact this
    have hsame:es.modify j (fun e=>{ e with key:=roV r })=es:=by
      apply Array.ext'
      rw [Array.toList_modify,ChangeMaps.modify_eq_set _ _ _ _ g2]
      have : ({ e0 with key:=roV r }:MapEntry)=e0:=by rw [← g3]
      rw [this]
      exact WideElems.set_self _ _ _ g2
    have run:∀ W:World,W.heap[b]? = some (.map es clock)→(Instr.mapEntry 240 (.map (some b)) (roV r)).run Tryz.prog W = .ok (.tuple #[.int .u8 (f r),goInt e0.born]) (setBlock W b (.map es clock)):=by
      intro W hW
      rcases qV8.find W (qP2 hrw) es.toList hkeys with ⟨q1,q2⟩ | ⟨j',e0',q1,q2,q3⟩
      · exact absurd g3 (q2 e0 hm0)
      · have hj':es[j']? = some e0':=by simpa using q2
        have ee:e0'=e0:=entry_eq_of_key s3 (List.mem_of_getElem? q2) hm0 (q3.trans g3.symm)
        subst ee
        have hsame':es.modify j' (fun e=>{ e with key:=roV r })=es:=by
          apply Array.ext'
          rw [Array.toList_modify,ChangeMaps.modify_eq_set _ _ _ _ q2]
          have : ({ e0' with key:=roV r }:MapEntry)=e0':=by rw [← g3]
          rw [this]
          exact WideElems.set_self _ _ _ q2
        simp [Instr.mapEntry,run_underlying QE5,MapKept.run_getObj_map hW,qV8.check W false (qP2 hrw),q1,hj',q3,qV8.stays W (qP2 hrw),hsame',MapKept.run_setObj_map _ hW,Result.andThen,setBlock,hval]
    have e1:=run w hb
    rw [h1] at e1
    have e2:=(Result.ok.inj e1).2
    have e3:=(Result.ok.inj e1).1
    have e4:es1=es∧clock1=clock:=by
      have : (setBlock w b (.map es1 clock1)).heap[b]? = (setBlock w b (.map es clock)).heap[b]? := by rw [e2]
      rw [heap_setBlock_same hb,heap_setBlock_same hb] at this
      exact ⟨(Obj.map.inj (Option.some.inj this)).1,(Obj.map.inj (Option.some.inj this)).2⟩
    obtain ⟨rfl,rfl⟩:=e4
    have e5:st=e0.born:=by
      simp [goInt] at e3
      omega
    rw [e5] at h3'
    exact ⟨_,_,_,_,_,hb,⟨hl0,run,hl0,h3'⟩⟩
theorem u8_or (a b:Int) (ha:qJ8 a) (hb:qJ8 b):bits .or .u8 a b=orI a b:=by
 obtain ⟨A,rfl⟩:=Int.eq_ofNat_of_zero_le ha.1
 obtain ⟨B,rfl⟩:=Int.eq_ofNat_of_zero_le hb.1
 have h1:=ha.2
 have h2:=hb.2
 have hx:A ||| B < 2 ^ 8:=Nat.or_lt_two_pow (by omega) (by omega)
 rw [orI,QC0 A B (by omega) (by omega)]
 have ea:(BitVec.ofInt 8 (A:Int)).toNat=A:=by rw [BitVec.ofInt_natCast,BitVec.toNat_ofNat];exact Nat.mod_eq_of_lt (by omega)
 have eb:(BitVec.ofInt 8 (B:Int)).toNat=B:=by rw [BitVec.ofInt_natCast,BitVec.toNat_ofNat];exact Nat.mod_eq_of_lt (by omega)
 show IntKind.u8.wrap ((BitVec.ofInt 8 (A:Int) ||| BitVec.ofInt 8 (B:Int)).toNat:Int)=_
 rw [BitVec.toNat_or,ea,eb,IntKind.wrap_u8]
 omega
theorem u8_and (a b:Int) (ha:qJ8 a) (hb:qJ8 b):bits .and .u8 a b=andI a b:=by
 obtain ⟨A,rfl⟩:=Int.eq_ofNat_of_zero_le ha.1
 obtain ⟨B,rfl⟩:=Int.eq_ofNat_of_zero_le hb.1
 have h1:=ha.2
 have h2:=hb.2
 have hx:A &&& B < 2 ^ 8:=Nat.and_lt_two_pow _ (by omega)
 rw [andI,QM0 A B (by omega) (by omega)]
 have ea:(BitVec.ofInt 8 (A:Int)).toNat=A:=by rw [BitVec.ofInt_natCast,BitVec.toNat_ofNat];exact Nat.mod_eq_of_lt (by omega)
 have eb:(BitVec.ofInt 8 (B:Int)).toNat=B:=by rw [BitVec.ofInt_natCast,BitVec.toNat_ofNat];exact Nat.mod_eq_of_lt (by omega)
 show IntKind.u8.wrap ((BitVec.ofInt 8 (A:Int) &&& BitVec.ofInt 8 (B:Int)).toNat:Int)=_
 rw [BitVec.toNat_and,ea,eb,IntKind.wrap_u8]
 omega
theorem u8_not (s c:Int) (hs:qJ8 s) (hc:qJ8 c):0≤bits .andNot .u8 s c∧bits .andNot .u8 s c≤255∧(bits .andNot .u8 s c=0↔orI c s=c):=by
 obtain ⟨S,rfl⟩:=Int.eq_ofNat_of_zero_le hs.1
 obtain ⟨C,rfl⟩:=Int.eq_ofNat_of_zero_le hc.1
 have h1:=hs.2
 have h2:=hc.2
 have ea:(BitVec.ofInt 8 (S:Int)).toNat=S:=by rw [BitVec.ofInt_natCast,BitVec.toNat_ofNat];exact Nat.mod_eq_of_lt (by omega)
 have eb:(BitVec.ofInt 8 (C:Int)).toNat=C:=by rw [BitVec.ofInt_natCast,BitVec.toNat_ofNat];exact Nat.mod_eq_of_lt (by omega)
 have e:bits .andNot .u8 (S:Int) (C:Int)=IntKind.u8.wrap ((BitVec.ofInt 8 (S:Int) &&& ~~~ (BitVec.ofInt 8 (C:Int))).toNat:Int):=rfl
 have hlt:=(BitVec.ofInt 8 (S:Int) &&& ~~~ (BitVec.ofInt 8 (C:Int))).isLt
 have e2:bits .andNot .u8 (S:Int) (C:Int)=((BitVec.ofInt 8 (S:Int) &&& ~~~ (BitVec.ofInt 8 (C:Int))).toNat:Int):=by
  rw [e,IntKind.wrap_u8]
  omega
 refine ⟨by rw [e2];omega,by rw [e2];omega,?_⟩
 rw [e2,orI,QC0 C S (by omega) (by omega)]
 have key:(BitVec.ofInt 8 (S:Int) &&& ~~~ (BitVec.ofInt 8 (C:Int))).toNat=0↔C ||| S=C:=by
  constructor
  ·intro h
   apply Nat.eq_of_testBit_eq
   intro i
   rw [Nat.testBit_or]
   by_cases q:i < 8
   ·have hb:(BitVec.ofInt 8 (S:Int) &&& ~~~ (BitVec.ofInt 8 (C:Int))).toNat.testBit i=false:=by rw [h];simp
    rw [BitVec.testBit_toNat,BitVec.getLsbD_and,BitVec.getLsbD_not,← BitVec.testBit_toNat,← BitVec.testBit_toNat,ea,eb] at hb
    simp [q] at hb
    cases c1:S.testBit i
    ·simp
    ·simp [hb c1]
   ·have hi:256≤2 ^ i:=by
     have : 2 ^ 8≤2 ^ i:=Nat.pow_le_pow_right (by omega) (by omega)
     omega
    rw [Nat.testBit_lt_two_pow (show S < 2 ^ i by omega)]
    simp
  ·intro h
   apply Nat.eq_of_testBit_eq
   intro i
   rw [BitVec.testBit_toNat,BitVec.getLsbD_and,BitVec.getLsbD_not,← BitVec.testBit_toNat,← BitVec.testBit_toNat,ea,eb]
   have hb:(C ||| S).testBit i=C.testBit i:=by rw [h]
   rw [Nat.testBit_or] at hb
   cases c1:S.testBit i
   ·simp
   ·rw [c1] at hb
    simp at hb
    simp [hb]
 constructor
 ·intro h
  rw [key.1 (by omega)]
 ·intro h
  have:=key.2 (by omega)
  omega
end

section
open Go.RowKit Go.Maps
open Go.ChangeMaps (setBlock heap_setBlock_same heap_setBlock_other)
theorem qZ5 (w:World) (o:Obj) {i:Nat} (h:i < w.heap.size):(w.alloc o).heap[i]? = w.heap[i]? := (MapKept.heap_alloc w o).2 i h
theorem grown_mp {w:World} {b:Nat} {es es':Array MapEntry} {c c':Nat} (hb:w.heap[b]? = some (.map es c)):w.grownBy (setBlock w b (.map es' c')) (some b) :=
 ⟨rfl,rfl,rfl,by simp [setBlock],fun i _ hi=>heap_setBlock_other hb _ (fun e=>hi (by rw [e]))⟩
theorem grown_dr (w:World):w.grownBy w.drew none:=⟨rfl,rfl,rfl,Nat.le_refl _,fun _ _ _=>rfl⟩
theorem QL0 {a b c:World} {j:Nat} (h:a.grownBy b (some j)) (k:b.grownBy c (some j)):a.grownBy c (some j):=h.andThen k (fun _ e => .inr e)
theorem give_c (b:Nat) (f:RoI→Int) (r:RoI) (s:Int) (w:World) (h:GM w b f) (hr:qC8 r.1 r.2=true) (hs:qJ8 s) :
  Calls Tryz.prog 200 #[.map (some b),.agg #[.int .i64 r.1,.int .i64 r.2],.int .u8 s] w fun e w'=>e = .returned (.bool (!decide (orI (f r) s=f r)))∧GM w' b (qR2 f r s)∧w.grownBy w' (some b):=by
 obtain ⟨es,es1,clock,clock1,st,hb,E⟩:=entry_is h hr
 have hlt:=h.lt
 have hfn:=h.fn
 have hn:=u8_not s (f r) hs (hfn.st r)
 have hba:(w.alloc (.cells #[.int .i64 r.1,.int .i64 r.2] 112)).heap[b]? = some (.map es clock):=(qZ5 w _ hlt).trans hb
 have hl0:=E.look0 _ hba
 by_cases hsame:orI (f r) s=f r
 ·have hz:=hn.2.2.2 hsame
  go_enter Tryz.func200,Tryz.ntmps200
  go_wp2
  go_ret
  rw [decide_eq_true hsame,QY3 hsame]
  exact ⟨rfl,qO9 h (qZ5 w _ hlt),(World.grownBy_alloc w _ none).but _⟩
 ·obtain ⟨g,hg⟩:∃ g,bits .andNot .u8 s (f r)=g:=⟨_,rfl⟩
  have hg0:g≠0:=fun e=>hsame (hn.2.2.1 (hg.trans e))
  clear hn
  go_enter Tryz.func200,Tryz.ntmps200
  go_wp2
  have c0:(w.alloc (.cells #[.int .i64 r.1,.int .i64 r.2] 112)).cell? ⟨w.heap.size,0,none⟩=some (.int .i64 r.1):=by unfold World.cell?;rw [(MapKept.heap_alloc w _).1];rfl
  have c1:(w.alloc (.cells #[.int .i64 r.1,.int .i64 r.2] 112)).cell? ⟨w.heap.size,1,none⟩=some (.int .i64 r.2):=by unfold World.cell?;rw [(MapKept.heap_alloc w _).1];rfl
  have hgr:w.grownBy (w.alloc (.cells #[.int .i64 r.1,.int .i64 r.2] 112)) none:=World.grownBy_alloc w _ none
  generalize w.alloc (.cells #[.int .i64 r.1,.int .i64 r.2] 112)=w1 at *
  have hso:qJ8 (orI (f r) s):=QW6 (hfn.st r) hs
  have hor:bits .or .u8 (f r) s=orI (f r) s:=u8_or _ _ (hfn.st r) hs
  have hs0:orI (f r) s≠0:=fun e=>hsame (by have:=or_le (hfn.st r) hs;have:=(hfn.st r).1;omega)
  have a1:=E.ask w1.drew hba
  have l0:=E.look0 w1.drew hba
  have hb2:(setBlock w1.drew b (.map es1 clock1)).heap[b]? = some (.map es1 clock1):=heap_setBlock_same (w:=w1.drew) hba _
  have l1:=E.look1 _ hb2
  obtain ⟨es2,clock2,w2,hgm⟩:=E.write _ _ hb2 hso hs0
  have k3:w1.drew.grownBy (setBlock w1.drew b (.map es1 clock1)) (some b):=grown_mp (w:=w1.drew) hba
  generalize setBlock w1.drew b (.map es1 clock1)=w3 at *
  have k4:w3.grownBy (setBlock w3 b (.map es2 clock2)) (some b):=grown_mp hb2
  generalize setBlock w3 b (.map es2 clock2)=w4 at *
  have k5:w.grownBy w4 (some b):=QL0 (QL0 (QL0 (hgr.but _) ((grown_dr w1).but _)) k3) k4
  clear hgr k3 k4
  have w2':(Instr.entryStore 240 (.map (some b)) (.int .i64 (st:Int)) (.int .u8 (orI (f r) s))).run Tryz.prog w3 = .ok () w4:=w2
  clear E w2
  go_region
  go_wp2
  go_ret
  rw [decide_eq_false hsame]
  exact ⟨rfl,hgm,k5⟩
end

section
open Go.RowKit Go.Shelf Go.Maps
attribute [local go_sem] Oper.semAt_some
attribute [local go_sem] QH6
set_option linter.unusedVariables false
set_option linter.unusedSimpArgs false
def accL (f:RoI→Int) (nm:Int) (pre:List P8):Int:=(pre.map (·.1)).foldl (fun o y=>orI o (f (y,nm))) 0
theorem accL_snoc (f:RoI→Int) (nm:Int) (pre:List P8) (x:P8):accL f nm (pre++[x])=orI (accL f nm pre) (f (x.1,nm)):=by
 simp [accL,List.foldl_append]
theorem accL_set {f:RoI→Int} (hf:FN f) (nm:Int) (pre:List P8):qJ8 (accL f nm pre):=by
 unfold accL
 exact (QC4 hf.st nm _ 0 ⟨by omega,by omega⟩).1
theorem linked_w (n:Nat) (hn:3≤n) (b:Nat) (f:RoI→Int) (s nm:Int) (w:World) (h:GM w b f) (hs:qJ8 s) (n0:1≤nm) (n1:nm≤5) :
  CallsIn Fence.wide n Tryz.prog 211 #[.map (some b),.int .u8 s,.int .i64 nm] w fun e W'=>e = .returned (.int .u8 (qK3 f nm (qB1 s 8) (qB1 s 8).length))∧Below w.heap.size w W':=by
 have h1:1≤n:=by omega
 have s0:=hs.1
 have s1:=hs.2
 have hfn:=h.fn
 have hlt:=h.lt
 refine callsIn_of_wp_marks Tryz.func211 rfl trivial ?_ rfl
 simp only [Tryz.ntmps211,List.size_toArray,List.length_cons,List.length_nil,Nat.reduceAdd,Nat.reduceSub,Array.replicate_succ,Array.replicate_zero,List.push_toArray,List.append_toArray,List.nil_append,List.cons_append]
 gi_wp2_with (gi_at_call 163;refine (prin_in _ _ _).mono ?_;rintro e w' ⟨rfl,rfl⟩)
 have bM:=Boxed.new w 240 (.map (some b))
 have bN:=Boxed.new (w.alloc (.cells #[.map (some b)] 240)) 2 (.int .i64 nm)
 rw [World.size_alloc] at bN
 have bA:=Boxed.new ((w.alloc (.cells #[.map (some b)] 240)).alloc (.cells #[.int .i64 nm] 2)) 220 (.int .u8 0)
 rw [World.size_alloc,World.size_alloc] at bA
 have bS:=Boxed.new (((w.alloc (.cells #[.map (some b)] 240)).alloc (.cells #[.int .i64 nm] 2)).alloc (.cells #[.int .u8 0] 220)) 220 (.int .u8 s)
 rw [World.size_alloc,World.size_alloc,World.size_alloc] at bS
 have bM':=((bM.alloc (.cells #[.int .i64 nm] 2)).alloc (.cells #[.int .u8 0] 220)).alloc (.cells #[.int .u8 s] 220)
 have bN':=(bN.alloc (.cells #[.int .u8 0] 220)).alloc (.cells #[.int .u8 s] 220)
 have bA':=bA.alloc (.cells #[.int .u8 s] 220)
 obtain ⟨W0,hW0⟩:∃ W0,(((w.alloc (.cells #[.map (some b)] 240)).alloc (.cells #[.int .i64 nm] 2)).alloc (.cells #[.int .u8 0] 220)).alloc (.cells #[.int .u8 s] 220)=W0:=⟨_,rfl⟩
 have hsz:W0.heap.size=w.heap.size+4:=by rw [← hW0];simp
 have hB0:Below w.heap.size w W0:=by rw [← hW0];exact ((((Below.refl _ w).alloc (Nat.le_refl _) _).alloc (by simp) _).alloc (by simp;omega) _).alloc (by simp;omega) _
 rw [hW0] at bS bA' bM' bN' ⊢
 have HB0:Hid (Below w.heap.size w W0):=hB0
 have hG0:=h.below hlt hB0
 clear bA bM bN hW0 hB0
 refine wpIn_rangeFunc_ownG rfl h1 (gf:=183) (lb:=#[.pointer (some ⟨w.heap.size+1+1+1,0,none⟩)]) rfl trivial (enters_of Tryz.func183 (by kernel_rfl) rfl)
  (QI6 (n - 1) (by omega) (w.heap.size+1+1+1) s s0 s1 W0 (by omega) bS.cell) (Kp:=qY1 (w.heap.size+1+1+1)) (fun h k=>Eq.trans k h) (fun W l o o' hl h _ _=>World.putObj_heap_other (by omega)) (Below.refl _ _) (fun _=>rfl)
  (fun pre W=>(Boxed W (w.heap.size+1+1) 220 (.int .u8 (accL f nm pre))∧Boxed W (w.heap.size+1+1+1) 220 (.int .u8 s))∧Below (w.heap.size+1+1) W0 W)
  (fun _ _ _=>False)
  (OwnFrom.and (OwnFrom.and (Own.from (boxed_own _ _ (fun pre => .int .u8 (accL f nm pre))) _) (Own.from (boxed_own _ _ (fun _ => .int .u8 s)) _)) (ownFrom_below (by omega) (by omega)))
  (fun _ _ _ _ _ hs _ _=>hs)
  ⟨⟨bA',bS⟩,Below.refl _ _⟩
  (fun x=>{ tmps:=#[.map (some b),.int .u8 s,.int .i64 nm,.pointer (some ⟨w.heap.size,0,none⟩),undef,.pointer (some ⟨w.heap.size+1,0,none⟩),.int .u8 0,.pointer (some ⟨w.heap.size+1+1,0,none⟩),.int .i64 x.1,.int .u8 s,.func (.func 183) #[] #[.pointer (some ⟨w.heap.size+1+1+1,0,none⟩)],.int .i64 x.1,undef,undef,undef,undef,undef,undef,undef,undef],defers:=[] }) ?assign ?body ?done ?stop
 case assign =>
  intro l x W K hK
  gi_wp2
  exact hK
 case body =>
  rintro l pre x W ⟨⟨hA,hS⟩,hB⟩ hlt'
  have cA:W.drew.cell? ⟨w.heap.size+1+1,0,none⟩=some (.int .u8 (accL f nm pre)):=hA.cell
  have fA:W.drew.frozen? ⟨w.heap.size+1+1,0,none⟩=false:=hA.frozen
  have cM:W.drew.cell? ⟨w.heap.size,0,none⟩=some (.map (some b)):=(hB.cell (p:=⟨w.heap.size,0,none⟩) (by simp;omega)).trans bM'.cell
  have cN:W.drew.cell? ⟨w.heap.size+1,0,none⟩=some (.int .i64 nm):=(hB.cell (p:=⟨w.heap.size+1,0,none⟩) (by simp)).trans bN'.cell
  have hG:=hG0.below (k:=w.heap.size+1+1) (by omega) hB
  have hlk:(Instr.lookup 240 (.map (some b)) (.agg #[.int .i64 x.1,.int .i64 nm]) false).run Tryz.prog W.drew = .ok (.int .u8 (f (x.1,nm))) W.drew:=QA7 (w:=W.drew) (qO9 hG rfl) (r:=(x.1,nm)) (QI3 (by have:=x.2;simp [qC8,qT1,qU0];omega))
  have hor:bits .or .u8 (accL f nm pre) (f (x.1,nm))=accL f nm (pre++[x]):=by rw [accL_snoc];exact u8_or _ _ (accL_set hfn nm pre) (hfn.st _)
  have hA':Boxed W.drew (w.heap.size+1+1) 220 (.int .u8 (accL f nm pre)):=hA
  have hS':Boxed W.drew (w.heap.size+1+1+1) 220 (.int .u8 s):=hS
  gi_wp2
  gi_region
  all_goals exact ⟨((KeepsOthers.drew W).trans (KeepsOthers.setCell W.drew ⟨w.heap.size+1+1,0,none⟩ _)).from _,(hS'.other (by omega) _).trans hS.symm,⟨hA'.set _,hS'.other (by omega) _⟩,(hB.drew).setCell (p:=⟨w.heap.size+1+1,0,none⟩) (Nat.le_refl _) _⟩
 case done =>
  rintro D ys W hD hys ⟨⟨hA,_⟩,hB⟩ hK
  have cA:=hA.cell
  gi_wp2
  refine ⟨by simp,.inl ⟨_,_,rfl,run_takeDeferred hK,?_⟩⟩
  refine ⟨.int .u8 (accL f nm ys),?res,?val,?below⟩
  case res=>simp [results,Tryz.results211,go_sem]
  case val =>
   have : accL f nm ys=qK3 f nm (qB1 s 8) (qB1 s 8).length:=by
    unfold accL qK3
    rw [List.take_length,hys]
   rw [this]
  case below=>exact (HB0.out.trans (hB.mono (by omega))).trans (belowK_b (w:=w) (Nat.le_refl _) _ D _ _ (by omega) hK rfl rfl)
 case stop =>
  rintro D c pre W _ _ h _
  exact h.elim
theorem linked_c (b:Nat) (f:RoI→Int) (s nm:Int) (w:World) (h:GM w b f) (hs:qJ8 s) (n0:1≤nm) (n1:nm≤5) :
  Calls Tryz.prog 211 #[.map (some b),.int .u8 s,.int .i64 nm] w fun e W'=>e = .returned (.int .u8 (qK3 f nm (qB1 s 8) (qB1 s 8).length))∧Below w.heap.size w W' :=
 callsIn_wide.1 (linked_w 3 (Nat.le_refl _) b f s nm w h hs n0 n1)
end

section
open Go.RowKit Go.Maps
attribute [local go_sem] ta11 ta12 ta13 ta14 ta21 ta22 ta23 ta24 ta31 ta32 ta33 ta34 ta41 ta42 ta43 ta44
theorem look_gm (w:World) {ops:Array Oper} {rest:List Oper} {o:Oper} {a:Act} {Q:Exit→Act→World→Prop} (hg:o.guard=none) (m x:Operand) (hop:o.op=Op.lookup 240 m x false)
  (b:Nat) (f:RoI→Int) (r:RoI) (hm:a.eval m = .map (some b)) (hx:a.eval x = .agg #[.int .i64 r.1,.int .i64 r.2]) {w1:World} (hG:GM w1 b f) (hB:Below w1.heap.size w1 w) (hr:roW r)
  (hK:wpList Tryz.prog ops Q rest (a.put o.dst (.int .u8 (f r))) w):wpList Tryz.prog ops Q (o::rest) a w:=by
 refine wpList_plain hg fun K' hK'=>?_
 have hrun:=QA7 (hG.below hG.lt hB) hr
 unfold Oper.wp
 simp only [roV] at hrun
 simp [execOp,hop,hm,hx,hrun,Result.andThen]
 exact hK' _ _ hK
theorem bn_new {w w1:World} {o:Obj} (h:Below (w.alloc o).heap.size (w.alloc o) w1):Below w.heap.size w w1:=(zN).trans (h.mono (by simp))
theorem qV2 {r:qA0} (h:qA7 r=0):1≤r.k∧r.k≤4∧qC8 r.ho r.hn=true∧QC7 r=true:=by
 unfold qA7 at h
 split at h
 ·cases h
 ·rename_i h1
  split at h
  ·cases h
  ·rename_i h2
   split at h
   ·cases h
   ·split at h
    ·cases h
    ·rename_i h4
     exact ⟨by omega,by omega,by simpa using h2,by simpa using h4⟩
theorem told_1 (b:Nat) (f:RoI→Int) (r:qA0) (w:World) (h:GM w b f) (hc:qA7 r=0) (e1:r.k=1) :
  Calls Tryz.prog 201 #[.map (some b),.agg #[.int .i64 r.k,.int .i64 r.ho,.int .i64 r.hn,.int .i64 r.w,.int .i64 r.oo,.int .i64 r.on,.int .i64 r.to,.int .i64 r.tn]] w fun e w'=>e = .returned (.int .u8 (byF f r))∧Below w.heap.size w w':=by
 have hh:=(qV2 hc).2.2.2
 have hp:1≤r.w∧r.w≤8:=by simpa [QC7,e1,qT1] using hh
 have eb:byF f r=bitI r.w:=by simp [byF,e1]
 rw [eb]
 have E1:Hid _:=e1
 clear hh eb hc e1
 go_enter Tryz.func201,Tryz.ntmps201
 go_wp2_with (first | (go_at_call 191;refine (QU0 r E1.out _).mono ?_;rintro e w1 ⟨rfl,hb0⟩;have hb:=bn_new hb0;clear hb0) | (go_at_call 184;refine (QU1 r.w hp.1 hp.2 _).mono ?_;rintro e w2 ⟨rfl,rfl⟩) | go_in)
 go_ret
 exact ⟨rfl,hb.alloc hb.size _⟩
theorem told_2 (b:Nat) (f:RoI→Int) (r:qA0) (w:World) (h:GM w b f) (hc:qA7 r=0) (e1:r.k=2) :
  Calls Tryz.prog 201 #[.map (some b),.agg #[.int .i64 r.k,.int .i64 r.ho,.int .i64 r.hn,.int .i64 r.w,.int .i64 r.oo,.int .i64 r.on,.int .i64 r.to,.int .i64 r.tn]] w fun e w'=>e = .returned (.int .u8 (byF f r))∧Below w.heap.size w w':=by
 have hh:=(qV2 hc).2.2.2
 have hp:qC8 r.oo r.on=true:=by simpa [QC7,e1] using hh
 have eb:byF f r=f (r.oo,r.on):=by simp [byF,e1]
 rw [eb]
 have E1:Hid _:=e1
 clear hh eb hc e1
 go_enter Tryz.func201,Tryz.ntmps201
 go_wp2_with (first | (go_at_call 191;refine (QT9 r E1.out _).mono ?_;rintro e w1 ⟨rfl,hb0⟩;have hb:=bn_new hb0;clear hb0) | (at_lookup;refine look_gm _ rfl _ _ rfl b f (r.oo,r.on) rfl rfl h (hb.alloc hb.size _) (QI3 hp) ?_) | go_in)
 go_ret
 exact ⟨rfl,hb.alloc hb.size _⟩
theorem told_3 (b:Nat) (f:RoI→Int) (r:qA0) (w:World) (h:GM w b f) (hc:qA7 r=0) (e1:r.k=3) :
  Calls Tryz.prog 201 #[.map (some b),.agg #[.int .i64 r.k,.int .i64 r.ho,.int .i64 r.hn,.int .i64 r.w,.int .i64 r.oo,.int .i64 r.on,.int .i64 r.to,.int .i64 r.tn]] w fun e w'=>e = .returned (.int .u8 (byF f r))∧Below w.heap.size w w':=by
 have hh:=(qV2 hc).2.2.2
 have hp:qC8 r.oo r.on=true∧1≤r.tn∧r.tn≤5:=by simpa [QC7,e1,qU0] using hh
 have eb:byF f r=qK3 f r.tn (qB1 (f (r.oo,r.on)) 8) (qB1 (f (r.oo,r.on)) 8).length:=by simp [byF,e1]
 rw [eb]
 have E1:Hid _:=e1
 clear hh eb hc e1
 go_enter Tryz.func201,Tryz.ntmps201
 go_wp2_with (first | (go_at_call 191;refine (QH1 r E1.out _).mono ?_;rintro e w1 ⟨rfl,hb0⟩;have hb:=bn_new hb0;clear hb0) | go_in)
 have hB1:=hb.alloc hb.size (.cells #[.int .i64 r.oo,.int .i64 r.on,.int .i64 r.tn] 296)
 have hG1:=h.below h.lt hB1
 have hl:=QA7 (w:=(w1.alloc (.cells #[.int .i64 r.oo,.int .i64 r.on,.int .i64 r.tn] 296)).drew) (qO9 hG1 rfl) (QI3 (r:=(r.oo,r.on)) hp.1)
 simp only [roV] at hl
 have HG:Hid (GM (w1.alloc (.cells #[.int .i64 r.oo,.int .i64 r.on,.int .i64 r.tn] 296)).drew b f):=qO9 hG1 rfl
 have HB:Hid (Below w.heap.size w (w1.alloc (.cells #[.int .i64 r.oo,.int .i64 r.on,.int .i64 r.tn] 296)).drew):=hB1.drew
 have HS:Hid (qJ8 (f (r.oo,r.on))):=h.fn.st _
 clear hB1 hG1 h hb
 go_region_with (first | (go_at_call 211;refine (linked_c b f (f (r.oo,r.on)) r.tn _ HG.out HS.out hp.2.1 hp.2.2).mono ?_;rintro e w2 ⟨rfl,hb2⟩))
 all_goals go_wp2
 all_goals go_ret
 all_goals exact ⟨rfl,HB.out.trans (hb2.mono HB.out.size)⟩
theorem told_4 (b:Nat) (f:RoI→Int) (r:qA0) (w:World) (h:GM w b f) (hc:qA7 r=0) (e1:r.k=4) :
  Calls Tryz.prog 201 #[.map (some b),.agg #[.int .i64 r.k,.int .i64 r.ho,.int .i64 r.hn,.int .i64 r.w,.int .i64 r.oo,.int .i64 r.on,.int .i64 r.to,.int .i64 r.tn]] w fun e w'=>e = .returned (.int .u8 (byF f r))∧Below w.heap.size w w':=by
 have hh:=(qV2 hc).2.2.2
 have hp:qC8 r.oo r.on=true∧qC8 r.to r.tn=true:=by simpa [QC7,e1] using hh
 have eb:byF f r=bits .and .u8 (f (r.oo,r.on)) (f (r.to,r.tn)):=by simp [byF,e1,u8_and _ _ (h.fn.st _) (h.fn.st _)]
 rw [eb]
 have E1:Hid _:=e1
 clear hh eb hc e1
 go_enter Tryz.func201,Tryz.ntmps201
 go_wp2_with (first | (go_at_call 191;refine (QT8 r E1.out _).mono ?_;rintro e w1 ⟨rfl,hb0⟩;have hb:=bn_new hb0;clear hb0) | go_in)
 have hB1:=hb.alloc hb.size (.cells #[.int .i64 r.oo,.int .i64 r.on,.int .i64 r.to,.int .i64 r.tn] 298)
 have hG1:=h.below h.lt hB1
 have hl1:=fun m=>QA7 (w:=(w1.alloc (.cells #[.int .i64 r.oo,.int .i64 r.on,.int .i64 r.to,.int .i64 r.tn] 298)).drewN m) (qO9 hG1 rfl) (QI3 (r:=(r.oo,r.on)) hp.1)
 have hl2:=fun m=>QA7 (w:=(w1.alloc (.cells #[.int .i64 r.oo,.int .i64 r.on,.int .i64 r.to,.int .i64 r.tn] 298)).drewN m) (qO9 hG1 rfl) (QI3 (r:=(r.to,r.tn)) hp.2)
 simp only [roV] at hl1 hl2
 have HB:Hid (Below w.heap.size w (w1.alloc (.cells #[.int .i64 r.oo,.int .i64 r.on,.int .i64 r.to,.int .i64 r.tn] 298))):=hB1
 clear hB1 hG1 h hb
 go_quiet (fail)
 go_wp2
 go_ret
 exact ⟨rfl,bdN HB.out _⟩
end

section
open Go.RowKit Go.Maps Go.Proofs
theorem told_c (b:Nat) (f:RoI→Int) (r:qA0) (w:World) (h:GM w b f) (hc:qA7 r=0) :
  Calls Tryz.prog 201 #[.map (some b),.agg #[.int .i64 r.k,.int .i64 r.ho,.int .i64 r.hn,.int .i64 r.w,.int .i64 r.oo,.int .i64 r.on,.int .i64 r.to,.int .i64 r.tn]] w fun e w'=>e = .returned (.int .u8 (byF f r))∧Below w.heap.size w w':=by
 have hk:=qV2 hc
 have h4:r.k=1∨r.k=2∨r.k=3∨r.k=4:=by omega
 rcases h4 with e | e | e | e
 ·exact told_1 b f r w h hc e
 ·exact told_2 b f r w h hc e
 ·exact told_3 b f r w h hc e
 ·exact told_4 b f r w h hc e
theorem Below.turn {B:Nat} {w w1 w2:World} {b:Nat} (h:Below B w w1) (hB:B≤w1.heap.size) (hb:B≤b) (hg:w1.grownBy w2 (some b)):Below B w w2:=h.grown hg hB (fun k e=>by cases e;exact hb)
end

end Go.Proofs.YtlhgjackapdmbaaGreatDoor
