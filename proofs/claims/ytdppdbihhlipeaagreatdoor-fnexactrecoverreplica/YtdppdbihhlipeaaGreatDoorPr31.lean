/- Contracts. -/
import Derived.Test.YtdppdbihhlipeaaGreatDoorPr27
import Derived.Test.YtdppdbihhlipeaaGreatDoorPr03
import Derived.Maps.Own
import Derived.Maps.OwnSet
import Derived.Maps.Ext
import Derived.Maps.RangeWalk
import Derived.DeepKeys4
import Derived.WideKeyEntry
import Derived.BigRegion
namespace Go.Proofs.YtdppdbihhlipeaaGreatDoor
set_option maxRecDepth 100000
set_option maxHeartbeats 8000000
open Go.RowKit
set_option linter.unusedVariables false
set_option linter.unusedSimpArgs false

section
open Go.RowKit Go.Maps
open Go.ChangeMaps (setBlock heap_setBlock_same heap_setBlock_other)
theorem QG7:Tryz.prog.underlying 280=some (.map 123 257):=by kernel_rfl
theorem qJn:Tryz.prog.underlying 257=some (.int .u8):=by kernel_rfl
theorem qKg:laidOutB Tryz.prog=true:=by kernel_rfl
theorem qJo:(123:TypeId) < Tryz.prog.types.size:=of_decide_eq_true (by kernel_rfl)
theorem qMr:Tryz.prog.keyTypeAt 2 123=true:=by kernel_rfl
theorem qLq:2+1<=10000:=by omega
theorem qX0:WideMaps.KeyLaw Tryz.prog 123:=by
 refine deep_law_laid (m:=2) qKg qLq qJo qMr ?_;rw [Tryz.underlying123]
theorem QI8:Keyed Tryz.prog 123:=Keyed.of_law qX0
theorem QW5 (w:World):(zeroValue 257).run Tryz.prog w = .ok (.int .u8 0) w:=by kernel_rfl
theorem QW6:Tryz.prog.cellsOf 123=2:=by kernel_rfl
theorem qIh:Tryz.prog.cellsOf 2=1:=by kernel_rfl
theorem qKh:Tryz.prog.keyType 123=true:=by kernel_rfl
theorem qDc:∃ d,Tryz.prog.types.size+1=d+2:=by
 have h:123 < Tryz.prog.types.size:=qJo;generalize Tryz.prog.types.size=n at h ⊢
 exact ⟨n - 1,by omega⟩
abbrev roV (r:RoI):Value:=.agg #[.int .i64 r.1,.int .i64 r.2]
def roW (r:RoI):Prop:=(Lit.int .i64 r.1).wf=true/\(Lit.int .i64 r.2).wf=true
def qFZ (r:RoI):Lit:=.string (keyBytes [.int .i64 r.1,.int .i64 r.2])
theorem QL0 {r:RoI} (h:qD6 r.1 r.2=true):roW r:=by
 simp [qD6,qU0,qV1] at h;constructor
 ·simp [Lit.wf,IntKind.min,IntKind.max,IntKind.signed,IntKind.bits];omega
 ·simp [Lit.wf,IntKind.min,IntKind.max,IntKind.signed,IntKind.bits];omega
theorem QW9 (d:Nat) (v:Value):Tryz.prog.keyLits (d+1) 2 [v]=match v with | .int q n=>if q = .i64/\(Lit.int .i64 n).wf=true then some [.int .i64 n] else none | _=>none:=by
 cases v <;> simp [Program.keyLits,Tryz.underlying2]
theorem qDm (d:Nat) (a b:Value):Tryz.prog.keyLits (d+2) 123 [a,b]=(Tryz.prog.keyLits (d+1) 2 [a]).bind fun x=>(Tryz.prog.keyLits (d+1) 2 [b]).map fun y=>x++y:=by
 generalize hx:Tryz.prog.keyLits (d+1) 2 [a]=x;generalize hy:Tryz.prog.keyLits (d+1) 2 [b]=y;conv=>lhs;unfold Program.keyLits
 simp only [Tryz.underlying123];simp [QW6,qIh,List.mapM_cons,hx,hy];cases x <;> simp
 cases y <;> simp
theorem qP8 {r:RoI} (h:roW r):keyOf Tryz.prog 123 (roV r)=some (qFZ r):=by
 obtain ⟨d,hd⟩:=qDc;unfold keyOf;simp only [Tryz.underlying123];simp [qKh,Value.formed,Tryz.underlying123,QW6,Value.cells,hd,qDm,QW9,h.1,h.2,qFZ]
theorem qKt {v:Value} {kl:Lit} (h:keyOf Tryz.prog 123 v=some kl):∃ r,roW r/\v=roV r/\kl=qFZ r:=by
 obtain ⟨d,hd⟩:=qDc;unfold keyOf at h;simp only [Tryz.underlying123] at h;split at h
 ·rename_i hc;rw [Bool.and_eq_true] at hc;have hf:=hc.2;cases v <;> simp [Value.formed,Tryz.underlying123,QW6] at hf
  rename_i xs
  obtain ⟨a,b,rfl⟩:∃ a b,xs = #[a,b]:=by
   rcases xs with ⟨l⟩
   match l,hf with
   | [a,b],_=>exact ⟨a,b,rfl⟩
  rw [hd,show (Value.cells (.agg #[a,b])).toList=[a,b] from rfl,qDm,QW9,QW9] at h;obtain ⟨ls,h1,rfl⟩:=Option.map_eq_some_iff.1 h;obtain ⟨l1,hx,h2⟩:=Option.bind_eq_some_iff.1 h1;obtain ⟨l2,hy,rfl⟩:=Option.map_eq_some_iff.1 h2;cases a <;> simp at hx
  cases b <;> simp at hy
  obtain ⟨⟨rfl,wx⟩,rfl⟩:=hx;obtain ⟨⟨rfl,wy⟩,rfl⟩:=hy;exact ⟨(_,_),⟨wx,wy⟩,rfl,rfl⟩
 ·cases h
theorem qDn {a b:RoI} (ha:roW a) (hb:roW b) (h:qFZ a=qFZ b):a=b:=by
 have:=QI8.inj (qP8 ha) (h ▸ qP8 hb);simp at this;exact Prod.ext this.1 this.2
theorem QX0 (r:RoI):WideAt.IsKeyLit (qFZ r):=trivial
structure qMi (D:DataW Unit) (f:RoI->Int):Prop where
 at':∀ r,roW r->D.atKey (qFZ r) (.lit (.int .u8 0)) = .lit (.int .u8 (f r))
 has:∀ r,roW r->Maps.has D (qFZ r)=decide (f r≠0)
noncomputable abbrev elU:Value->Option (DataW Unit × List MemPlace):=plainElem Tryz.prog 257
theorem qLG {s:Int} (h:qK9 s):elU (.int .u8 s)=some (.lit (.int .u8 s),[]):=by
 refine plainElem_int qJn ?_;have:=h.1;have:=h.2;simp [Lit.wf,IntKind.min,IntKind.max,IntKind.signed,IntKind.bits];omega
def GM (w:World) (b:Nat) (f:RoI->Int):Prop:=FN f/\∃ D n,w.ownsMap Tryz.prog 123 elU b n D/\qMi D f
theorem GM.fn {w:World} {b:Nat} {f:RoI->Int} (h:GM w b f):FN f:=h.1
theorem GM.lt {w:World} {b:Nat} {f:RoI->Int} (h:GM w b f):b < w.heap.size:=by
 obtain ⟨_,D,n,ho,_⟩:=h;exact ho.lt
theorem qP5 {w w':World} {b b':Nat} {f:RoI->Int} (h:GM w b f) (e:w'.heap[b']? = w.heap[b]?):GM w' b' f:=by
 obtain ⟨h1,D,n,⟨es,clock,hb,F,hs,hD⟩,hv⟩:=h;exact ⟨h1,D,n,⟨es,clock,e.trans hb,F,hs,hD⟩,hv⟩
theorem GM.below {w w':World} {b k:Nat} {f:RoI->Int} (h:GM w b f) (hk:b < k) (hb:Below k w w'):GM w' b f:=qP5 h (hb.block b hk)
theorem qIa {w:World} {b n:Nat} {D:DataW Unit} {f:RoI->Int} (hf:FN f) (ho:w.ownsMap Tryz.prog 123 elU b n D) (hv:qMi D f):w.ownsMap Tryz.prog 123 elU b 40 D/\Maps.size D<=40:=by
 obtain ⟨es',hD',hne,_⟩:=ho.entries QI8;obtain ⟨es,clock,hb,F,hs,hD⟩:=ho
 have hlen:Maps.size D=es.size:=by
  rw [hD];show ((es.toList.map _).foldr DataW.insert []).length=_
  rw [length_sorted];simp
 have hkeys:∀ p∈es',∃ r,qD6 r.1 r.2=true/\p.1=qFZ r:=by
  intro p hp
  have hp':p∈es.toList.map (WideElems.rg Tryz.prog 123 elU):=by
   rw [hD] at hD';have:=(DataW.map.inj hD').symm;rw [this] at hp;exact mem_sorted.1 hp
  obtain ⟨v,hvv⟩:=fit_keys F p hp';obtain ⟨r,hr,_,e⟩:=qKt hvv;refine ⟨r,?_,e⟩;refine hf.ro r ?_;have h1:=hv.has r hr;rw [hD',has_eq] at h1;have : (es'.any fun p=>p.1.sameKey (qFZ r))=true:=List.any_eq_true.2 ⟨p,hp,by rw [e];exact WideAt.sameKey_self (QX0 r)⟩;rw [this] at h1;exact of_decide_eq_true h1.symm
 have h40:es'.length<=40:=by
  have hnd:(es'.map Prod.fst).Nodup:=List.pairwise_map.2 hne
  have:=@QD6 Lit (fun _ _=>Classical.propDecidable _) (es'.map Prod.fst) (QY9.map qFZ) hnd (fun x hx=>by
   obtain ⟨p,hp,rfl⟩:=List.mem_map.1 hx;obtain ⟨r,hr,e⟩:=hkeys p hp;rw [e];exact List.mem_map.2 ⟨r,QM9 hr,rfl⟩)
  simpa [qBP] using this
 have hsz:Maps.size D<=40:=by rw [hD',size_eq];exact h40
 exact ⟨⟨es,clock,hb,F,by omega,hD⟩,hsz⟩
theorem qKx (w:World):GM (w.alloc (.map #[] 0)) w.heap.size qBV:=by
 refine ⟨qHT,.map [],0,World.ownsMap_made w _ _ _,⟨fun r _=>?_,fun r _=>?_⟩⟩
 ·rfl
 ·rfl
theorem QB8 {w:World} {b:Nat} {f:RoI->Int} (h:GM w b f) {r:RoI} (hr:roW r):(Instr.lookup 280 (.map (some b)) (roV r) false).run Tryz.prog w = .ok (.int .u8 (f r)) w:=by
 obtain ⟨_,D,n,ho,hv⟩:=h;obtain ⟨c,h1,h2,_⟩:=ho.lookup_int QI8 QG7 qJn (QW5 w) (qP8 hr);rw [hv.at' r hr] at h2;cases h2;exact h1
def qIK (f:RoI->Int) (r:RoI) (s:Int):RoI->Int:=fun r'=>if r'=r then s else f r'
theorem qHv {D:DataW Unit} {f:RoI->Int} (hm:IsMap D) (h:qMi D f) {r:RoI} (hr:roW r) {s:Int} (hs:s≠0):qMi (D.put (qFZ r) (.lit (.int .u8 s))) (qIK f r s):=by
 refine ⟨fun r' hr'=>?_,fun r' hr'=>?_⟩
 ·by_cases e:r'=r
  ·subst e;rw [atKey_put_same hm (QX0 _),qIK,if_pos rfl]
  ·rw [atKey_put_other (fun q=>e (qDn hr' hr q)),h.at' r' hr',qIK,if_neg e]
 ·by_cases e:r'=r
  ·subst e;rw [has_put_same hm (QX0 _),qIK,if_pos rfl];simp [hs]
  ·rw [has_put_other (fun q=>e (qDn hr' hr q)),h.has r' hr',qIK,if_neg e]
end

section
open Go.RowKit Go.Maps
open Go.ChangeMaps (setBlock heap_setBlock_same heap_setBlock_other)
theorem qKj {w:World} {b:Nat} {es:Array MapEntry} {clock:Nat} (hb:w.heap[b]? = some (.map es clock)) (hk:∀ e∈es.toList,∃ l,keyOf Tryz.prog 123 e.key=some l) {r:RoI} (hr:roW r) {v:Value}
  (hv:∀ e∈es.toList,e.key=roV r->e.val=v) (hex:∃ e∈es.toList,e.key=roV r):(Instr.lookup 280 (.map (some b)) (roV r) false).run Tryz.prog w = .ok v w:=by
 rcases qX0.find w (qP8 hr) es.toList hk with ⟨_,h2⟩ | ⟨j,e0,h1,h2,h3⟩
 ·obtain ⟨e,he,hke⟩:=hex;exact absurd hke (h2 e he)
 ·have:=hv e0 (List.mem_of_getElem? h2) h3;simp [Instr.lookup,run_underlying QG7,MapKept.run_getObj_map hb,qX0.check w _ (qP8 hr),h1,Result.andThen,this]
structure qLO (b:Nat) (f:RoI->Int) (r:RoI) (es es1:Array MapEntry) (clock clock1 st:Nat):Prop where
 look0:∀ W:World,W.heap[b]? = some (.map es clock)->(Instr.lookup 280 (.map (some b)) (roV r) false).run Tryz.prog W = .ok (.int .u8 (f r)) W
 ask:∀ W:World,W.heap[b]? = some (.map es clock)->(Instr.mapEntry 280 (.map (some b)) (roV r)).run Tryz.prog W = .ok (.tuple #[.int .u8 (f r),goInt st]) (setBlock W b (.map es1 clock1))
 look1:∀ W:World,W.heap[b]? = some (.map es1 clock1)->(Instr.lookup 280 (.map (some b)) (roV r) false).run Tryz.prog W = .ok (.int .u8 (f r)) W
 write:∀ (W:World) (s:Int),W.heap[b]? = some (.map es1 clock1)->qK9 s->s≠0->∃ es2 clock2,(Instr.entryStore 280 (.map (some b)) (goInt st) (.int .u8 s)).run Tryz.prog W = .ok () (setBlock W b (.map es2 clock2))/\GM (setBlock W b (.map es2 clock2)) b (qIK f r s)
theorem qMC {w:World} {b:Nat} {f:RoI->Int} (h:GM w b f):∃ es clock,w.heap[b]? = some (.map es clock)/\∀ W:World,W.heap[b]? = some (.map es clock)->GM W b f:=by
 obtain ⟨h1,D,n,⟨es,clock,hb,F,hs,hD⟩,hv⟩:=h;exact ⟨es,clock,hb,fun W hW=>⟨h1,D,n,⟨es,clock,hW,F,hs,hD⟩,hv⟩⟩
theorem qJK {w:World} {b:Nat} {f:RoI->Int} (h:GM w b f) {r:RoI} (hr:qD6 r.1 r.2=true):∃ es es1 clock clock1 st,w.heap[b]? = some (.map es clock)/\qLO b f r es es1 clock clock1 st:=by
  have hrw:=QL0 hr;obtain ⟨es,clock,hb,hGM⟩:=qMC h;obtain ⟨hfn,D,n,ho,hv⟩:=h;have ho40:=(qIa hfn ho hv).1;obtain ⟨es',clock',hb',F,hsz,hD⟩:=ho40;rw [hb] at hb';cases hb';have hl0:∀ W:World,W.heap[b]? = some (.map es clock)->(Instr.lookup 280 (.map (some b)) (roV r) false).run Tryz.prog W = .ok (.int .u8 (f r)) W:=fun W hW=>QB8 (hGM W hW) hrw
  have hkeys:∀ e∈es.toList,∃ l,keyOf Tryz.prog 123 e.key=some l:=F.keys;obtain ⟨s1,s2,s3⟩:=(MapKept.stamped_iff es clock).1 F.stamped;-- what is written, out of the law of the two steps
  have wr:∀ (es1:Array MapEntry) (clock1 st:Nat),(∀ (w2:World) (val:Value),w2.heap[b]? = some (.map es1 clock1)->∃ es' clock',(Instr.entryStore 280 (.map (some b)) (goInt st) val).run Tryz.prog w2 = .ok () (setBlock w2 b (.map es' clock')) /\
        (Instr.mapUpdate 280 (.map (some b)) (roV r) val).run Tryz.prog w = .ok () (setBlock w b (.map es' clock'))) ->
      ∀ (W:World) (s:Int),W.heap[b]? = some (.map es1 clock1)->qK9 s->s≠0->∃ es2 clock2,(Instr.entryStore 280 (.map (some b)) (goInt st) (.int .u8 s)).run Tryz.prog W = .ok () (setBlock W b (.map es2 clock2))/\GM (setBlock W b (.map es2 clock2)) b (qIK f r s):=by
    intro es1 clock1 st h3 W s hW hs hs0;obtain ⟨es2,clock2,h4,h5⟩:=h3 W (.int .u8 s) hW;have ho40:w.ownsMap Tryz.prog 123 elU b 40 D:=⟨es,clock,hb,F,hsz,hD⟩;obtain ⟨w',h6,h7,_⟩:=ho40.update QI8 QG7 (by unfold maxLen;omega) (qP8 hrw) (qLG hs);rw [h5] at h6;cases h6;refine ⟨es2,clock2,h4,?_⟩;refine qP5 (w:=setBlock w b (.map es2 clock2)) (b:=b) ?_ (by rw [heap_setBlock_same hW,heap_setBlock_same hb]);refine ⟨⟨fun r'=>?_,fun r' hn=>?_⟩,_,_,h7,qHv ?_ hv hrw hs0⟩
    · unfold qIK;split
      · exact hs
      · exact hfn.st _
    · unfold qIK at hn;split at hn
      · rename_i e;rw [e];exact hr
      · exact hfn.ro _ hn
    · exact ⟨_,hD⟩
  obtain ⟨v0,st,es1,clock1,h1,h2,h3⟩:=WideElems.entry_then_store qX0 QG7 QW5 hb F (qP8 hrw);have h3':=wr es1 clock1 st h3;clear h3 wr;rcases qX0.find w (qP8 hrw) es.toList hkeys with ⟨g1,g2⟩ | ⟨j,e0,g1,g2,g3⟩
  · -- the key is not there
    have ez:f r=0:=by
      have:=hl0 w hb;simp [Instr.lookup,run_underlying QG7,MapKept.run_getObj_map hb,qX0.check w _ (qP8 hrw),g1,QW5,Result.andThen] at this;exact this.symm
    have run:∀ W:World,W.heap[b]? = some (.map es clock)->(Instr.mapEntry 280 (.map (some b)) (roV r)).run Tryz.prog W = .ok (.tuple #[.int .u8 0,goInt clock]) (setBlock W b (.map (es.push ⟨roV r,.int .u8 0,clock⟩) (clock+1))):=by
      intro W hW;rcases qX0.find W (qP8 hrw) es.toList hkeys with ⟨q1,q2⟩ | ⟨j,e0,q1,q2,q3⟩
      · simp [Instr.mapEntry,run_underlying QG7,MapKept.run_getObj_map hW,qX0.check W false (qP8 hrw),q1,QW5,MapKept.run_setObj_map _ hW,Result.andThen,setBlock]
      · exact absurd q3 (g2 e0 (List.mem_of_getElem? q2))
    have e1:=run w hb;rw [h1] at e1;have e2:=(Result.ok.inj e1).2;have e3:=(Result.ok.inj e1).1
    have e4:es1=es.push ⟨roV r,.int .u8 0,clock⟩/\clock1=clock+1:=by
      have : (setBlock w b (.map es1 clock1)).heap[b]? = (setBlock w b (.map (es.push ⟨roV r,.int .u8 0,clock⟩) (clock+1))).heap[b]? := by rw [e2]
      rw [heap_setBlock_same hb,heap_setBlock_same hb] at this;exact ⟨(Obj.map.inj (Option.some.inj this)).1,(Obj.map.inj (Option.some.inj this)).2⟩
    obtain ⟨rfl,rfl⟩:=e4
    have e5:st=clock:=by
      simp [goInt] at e3;omega
    rw [e5] at h3';refine ⟨es,_,clock,_,_,hb,⟨hl0,fun W hW=>by rw [run W hW,ez],fun W hW=>?_,h3'⟩⟩;refine qKj hW (fun e he=>?_) hrw (fun e he hke=>?_) ⟨⟨roV r,.int .u8 0,clock⟩,by simp,rfl⟩
    · simp at he;rcases he with he | rfl
      · exact hkeys e (by simpa using he)
      · exact ⟨_,qP8 hrw⟩
    · simp at he;rcases he with he | rfl
      · exact absurd hke (g2 e (by simpa using he))
      · rw [ez]
  · -- the key is there
    have hj:es[j]? = some e0:=by simpa using g2
    have hm0:e0∈es.toList:=List.mem_of_getElem? g2
    have hval:e0.val = .int .u8 (f r):=by
      have:=hl0 w hb;simp [Instr.lookup,run_underlying QG7,MapKept.run_getObj_map hb,qX0.check w _ (qP8 hrw),g1,Result.andThen] at this;exact this
    have hsame:es.modify j (fun e=>{ e with key:=roV r })=es:=by
      apply Array.ext';rw [Array.toList_modify,ChangeMaps.modify_eq_set _ _ _ _ g2];have : ({ e0 with key:=roV r }:MapEntry)=e0:=by rw [<- g3]
      rw [this];exact WideElems.set_self _ _ _ g2
    have run:∀ W:World,W.heap[b]? = some (.map es clock)->(Instr.mapEntry 280 (.map (some b)) (roV r)).run Tryz.prog W = .ok (.tuple #[.int .u8 (f r),goInt e0.born]) (setBlock W b (.map es clock)):=by
      intro W hW;rcases qX0.find W (qP8 hrw) es.toList hkeys with ⟨q1,q2⟩ | ⟨j',e0',q1,q2,q3⟩
      · exact absurd g3 (q2 e0 hm0)
      · have hj':es[j']? = some e0':=by simpa using q2
        have ee:e0'=e0:=entry_eq_of_key s3 (List.mem_of_getElem? q2) hm0 (q3.trans g3.symm);subst ee
        have hsame':es.modify j' (fun e=>{ e with key:=roV r })=es:=by
          apply Array.ext';rw [Array.toList_modify,ChangeMaps.modify_eq_set _ _ _ _ q2];have : ({ e0' with key:=roV r }:MapEntry)=e0':=by rw [<- g3]
          rw [this];exact WideElems.set_self _ _ _ q2
        simp [Instr.mapEntry,run_underlying QG7,MapKept.run_getObj_map hW,qX0.check W false (qP8 hrw),q1,hj',q3,qX0.stays W (qP8 hrw),hsame',MapKept.run_setObj_map _ hW,Result.andThen,setBlock,hval]
    have e1:=run w hb;rw [h1] at e1;have e2:=(Result.ok.inj e1).2;have e3:=(Result.ok.inj e1).1
    have e4:es1=es/\clock1=clock:=by
      have : (setBlock w b (.map es1 clock1)).heap[b]? = (setBlock w b (.map es clock)).heap[b]? := by rw [e2]
      rw [heap_setBlock_same hb,heap_setBlock_same hb] at this;exact ⟨(Obj.map.inj (Option.some.inj this)).1,(Obj.map.inj (Option.some.inj this)).2⟩
    obtain ⟨rfl,rfl⟩:=e4
    have e5:st=e0.born:=by
      simp [goInt] at e3;omega
    rw [e5] at h3';exact ⟨_,_,_,_,_,hb,⟨hl0,run,hl0,h3'⟩⟩
theorem qLU (a b:Int) (ha:qK9 a) (hb:qK9 b):bits .or .u8 a b=orI a b:=by
 obtain ⟨A,rfl⟩:=Int.eq_ofNat_of_zero_le ha.1;obtain ⟨B,rfl⟩:=Int.eq_ofNat_of_zero_le hb.1;have h1:=ha.2;have h2:=hb.2;have hx:A ||| B < 2 ^ 8:=Nat.or_lt_two_pow (by omega) (by omega);rw [orI,QD5 A B (by omega) (by omega)];have ea:(BitVec.ofInt 8 (A:Int)).toNat=A:=by rw [BitVec.ofInt_natCast,BitVec.toNat_ofNat];exact Nat.mod_eq_of_lt (by omega)
 have eb:(BitVec.ofInt 8 (B:Int)).toNat=B:=by rw [BitVec.ofInt_natCast,BitVec.toNat_ofNat];exact Nat.mod_eq_of_lt (by omega)
 show IntKind.u8.wrap ((BitVec.ofInt 8 (A:Int) ||| BitVec.ofInt 8 (B:Int)).toNat:Int)=_
 rw [BitVec.toNat_or,ea,eb,IntKind.wrap_u8];omega
theorem qLW (a b:Int) (ha:qK9 a) (hb:qK9 b):bits .and .u8 a b=qKB a b:=by
 obtain ⟨A,rfl⟩:=Int.eq_ofNat_of_zero_le ha.1;obtain ⟨B,rfl⟩:=Int.eq_ofNat_of_zero_le hb.1;have h1:=ha.2;have h2:=hb.2;have hx:A &&& B < 2 ^ 8:=Nat.and_lt_two_pow _ (by omega);rw [qKB,QP6 A B (by omega) (by omega)];have ea:(BitVec.ofInt 8 (A:Int)).toNat=A:=by rw [BitVec.ofInt_natCast,BitVec.toNat_ofNat];exact Nat.mod_eq_of_lt (by omega)
 have eb:(BitVec.ofInt 8 (B:Int)).toNat=B:=by rw [BitVec.ofInt_natCast,BitVec.toNat_ofNat];exact Nat.mod_eq_of_lt (by omega)
 show IntKind.u8.wrap ((BitVec.ofInt 8 (A:Int) &&& BitVec.ofInt 8 (B:Int)).toNat:Int)=_
 rw [BitVec.toNat_and,ea,eb,IntKind.wrap_u8];omega
theorem qLV (s c:Int) (hs:qK9 s) (hc:qK9 c):0<=bits .andNot .u8 s c/\bits .andNot .u8 s c<=255/\(bits .andNot .u8 s c=0↔orI c s=c):=by
 obtain ⟨S,rfl⟩:=Int.eq_ofNat_of_zero_le hs.1;obtain ⟨C,rfl⟩:=Int.eq_ofNat_of_zero_le hc.1;have h1:=hs.2;have h2:=hc.2;have ea:(BitVec.ofInt 8 (S:Int)).toNat=S:=by rw [BitVec.ofInt_natCast,BitVec.toNat_ofNat];exact Nat.mod_eq_of_lt (by omega)
 have eb:(BitVec.ofInt 8 (C:Int)).toNat=C:=by rw [BitVec.ofInt_natCast,BitVec.toNat_ofNat];exact Nat.mod_eq_of_lt (by omega)
 have e:bits .andNot .u8 (S:Int) (C:Int)=IntKind.u8.wrap ((BitVec.ofInt 8 (S:Int) &&& ~~~ (BitVec.ofInt 8 (C:Int))).toNat:Int):=rfl;have hlt:=(BitVec.ofInt 8 (S:Int) &&& ~~~ (BitVec.ofInt 8 (C:Int))).isLt
 have e2:bits .andNot .u8 (S:Int) (C:Int)=((BitVec.ofInt 8 (S:Int) &&& ~~~ (BitVec.ofInt 8 (C:Int))).toNat:Int):=by
  rw [e,IntKind.wrap_u8];omega
 refine ⟨by rw [e2];omega,by rw [e2];omega,?_⟩;rw [e2,orI,QD5 C S (by omega) (by omega)]
 have key:(BitVec.ofInt 8 (S:Int) &&& ~~~ (BitVec.ofInt 8 (C:Int))).toNat=0↔C ||| S=C:=by
  constructor
  ·intro h;apply Nat.eq_of_testBit_eq;intro i;rw [Nat.testBit_or];by_cases q:i < 8
   ·have hb:(BitVec.ofInt 8 (S:Int) &&& ~~~ (BitVec.ofInt 8 (C:Int))).toNat.testBit i=false:=by rw [h];simp
    rw [BitVec.testBit_toNat,BitVec.getLsbD_and,BitVec.getLsbD_not,<- BitVec.testBit_toNat,<- BitVec.testBit_toNat,ea,eb] at hb;simp [q] at hb;cases c1:S.testBit i
    ·simp
    ·simp [hb c1]
   ·have hi:256<=2 ^ i:=by
     have : 2 ^ 8<=2 ^ i:=Nat.pow_le_pow_right (by omega) (by omega);omega
    rw [Nat.testBit_lt_two_pow (show S < 2 ^ i by omega)];simp
  ·intro h;apply Nat.eq_of_testBit_eq;intro i;rw [BitVec.testBit_toNat,BitVec.getLsbD_and,BitVec.getLsbD_not,<- BitVec.testBit_toNat,<- BitVec.testBit_toNat,ea,eb];have hb:(C ||| S).testBit i=C.testBit i:=by rw [h]
   rw [Nat.testBit_or] at hb;cases c1:S.testBit i
   ·simp
   ·rw [c1] at hb;simp at hb;simp [hb]
 constructor
 ·intro h;rw [key.1 (by omega)]
 ·intro h;have:=key.2 (by omega);omega
end

section
open Go.RowKit Go.Maps
open Go.ChangeMaps (setBlock heap_setBlock_same heap_setBlock_other)
theorem QA8 (w:World) (o:Obj) {i:Nat} (h:i < w.heap.size):(w.alloc o).heap[i]? = w.heap[i]? := (MapKept.heap_alloc w o).2 i h
theorem qDt {w:World} {b:Nat} {es es':Array MapEntry} {c c':Nat} (hb:w.heap[b]? = some (.map es c)):w.grownBy (setBlock w b (.map es' c')) (some b) :=
 ⟨rfl,rfl,rfl,by simp [setBlock],fun i _ hi=>heap_setBlock_other hb _ (fun e=>hi (by rw [e]))⟩
theorem qJI (w:World):w.grownBy w.drew none:=⟨rfl,rfl,rfl,Nat.le_refl _,fun _ _ _=>rfl⟩
theorem QO4 {a b c:World} {j:Nat} (h:a.grownBy b (some j)) (k:b.grownBy c (some j)):a.grownBy c (some j):=h.andThen k (fun _ e => .inr e)
theorem qMB (b:Nat) (f:RoI->Int) (r:RoI) (s:Int) (w:World) (h:GM w b f) (hr:qD6 r.1 r.2=true) (hs:qK9 s) :
  Calls Tryz.prog 221 #[.map (some b),.agg #[.int .i64 r.1,.int .i64 r.2],.int .u8 s] w fun e w'=>e = .returned (.bool (!decide (orI (f r) s=f r)))/\GM w' b (qS1 f r s)/\w.grownBy w' (some b):=by
 obtain ⟨es,es1,clock,clock1,st,hb,E⟩:=qJK h hr;have hlt:=h.lt;have hfn:=h.fn;have hn:=qLV s (f r) hs (hfn.st r);have hba:(w.alloc (.cells #[.int .i64 r.1,.int .i64 r.2] 123)).heap[b]? = some (.map es clock):=(QA8 w _ hlt).trans hb;have hl0:=E.look0 _ hba;by_cases hsame:orI (f r) s=f r
 ·have hz:=hn.2.2.2 hsame;go_enter Tryz.func221,Tryz.ntmps221;go_wp2;go_ret;rw [decide_eq_true hsame,qAp hsame];exact ⟨rfl,qP5 h (QA8 w _ hlt),(World.grownBy_alloc w _ none).but _⟩
 ·obtain ⟨g,hg⟩:∃ g,bits .andNot .u8 s (f r)=g:=⟨_,rfl⟩;have hg0:g≠0:=fun e=>hsame (hn.2.2.1 (hg.trans e))
  clear hn;go_enter Tryz.func221,Tryz.ntmps221;go_wp2;have c0:(w.alloc (.cells #[.int .i64 r.1,.int .i64 r.2] 123)).cell? ⟨w.heap.size,0,none⟩=some (.int .i64 r.1):=by unfold World.cell?;rw [(MapKept.heap_alloc w _).1];rfl
  have c1:(w.alloc (.cells #[.int .i64 r.1,.int .i64 r.2] 123)).cell? ⟨w.heap.size,1,none⟩=some (.int .i64 r.2):=by unfold World.cell?;rw [(MapKept.heap_alloc w _).1];rfl
  have hgr:w.grownBy (w.alloc (.cells #[.int .i64 r.1,.int .i64 r.2] 123)) none:=World.grownBy_alloc w _ none;generalize w.alloc (.cells #[.int .i64 r.1,.int .i64 r.2] 123)=w1 at *
  have hso:qK9 (orI (f r) s):=qAO (hfn.st r) hs;have hor:bits .or .u8 (f r) s=orI (f r) s:=qLU _ _ (hfn.st r) hs;have hs0:orI (f r) s≠0:=fun e=>hsame (by have:=qId (hfn.st r) hs;have:=(hfn.st r).1;omega)
  have a1:=E.ask w1.drew hba;have l0:=E.look0 w1.drew hba;have hb2:(setBlock w1.drew b (.map es1 clock1)).heap[b]? = some (.map es1 clock1):=heap_setBlock_same (w:=w1.drew) hba _;have l1:=E.look1 _ hb2;obtain ⟨es2,clock2,w2,hgm⟩:=E.write _ _ hb2 hso hs0;have k3:w1.drew.grownBy (setBlock w1.drew b (.map es1 clock1)) (some b):=qDt (w:=w1.drew) hba;generalize setBlock w1.drew b (.map es1 clock1)=w3 at *
  have k4:w3.grownBy (setBlock w3 b (.map es2 clock2)) (some b):=qDt hb2;generalize setBlock w3 b (.map es2 clock2)=w4 at *
  have k5:w.grownBy w4 (some b):=QO4 (QO4 (QO4 (hgr.but _) ((qJI w1).but _)) k3) k4;clear hgr k3 k4;have w2':(Instr.entryStore 280 (.map (some b)) (.int .i64 (st:Int)) (.int .u8 (orI (f r) s))).run Tryz.prog w3 = .ok () w4:=w2;clear E w2;go_region
  go_wp2;go_ret;rw [decide_eq_false hsame];exact ⟨rfl,hgm,k5⟩
end
