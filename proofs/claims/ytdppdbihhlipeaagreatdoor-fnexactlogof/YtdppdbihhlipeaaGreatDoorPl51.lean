/- Contracts. -/
import Derived.Test.YtdppdbihhlipeaaGreatDoorPl44
namespace Go.Proofs.YtdppdbihhlipeaaGreatDoor
set_option maxRecDepth 100000
set_option maxHeartbeats 8000000
open Go.RowKit
set_option linter.unusedVariables false
set_option linter.unusedSimpArgs false

section
open Go.RowKit Go.ChangeShapes Go.WideShapes
def LkArg (w:World) (a:Option Addr) (len:Nat) (zs:List LkI):Prop:=qJ9 w a len zs∧len≤maxLen
theorem cells64Lk:Tryz.prog.cellsOf 2=1:=by kernel_rfl
theorem Tryz.cells110:Tryz.prog.cellsOf 110=4:=by kernel_rfl
theorem listLk {α:Type} {l:List α} (h:l.length=4):∃ c0 c1 c2 c3,l=[c0,c1,c2,c3]:=by
 match l,h with
 | [c0,c1,c2,c3],_=>exact ⟨c0,c1,c2,c3,rfl⟩
theorem lock_list {H:Type} {enc:TypeId × Value→H} {w:World} {base:Nat} {spare:Nat→Bool} {held:Bool} {fuel:Nat} {cs:List Value} {x:DataW H × List MemPlace} (h:DataW.trod enc Tryz.prog w base spare held fuel 110 cs=some x) :
  ∃ r:LkI,cs=[.int .i64 r.e,.int .i64 r.c,.int .i64 r.p,.int .i64 r.f]:=by
 obtain ⟨xs,n,_,_,hl,hlen,hf⟩:=DataW.trod_struct Tryz.underlying110 h
 rw [Tryz.cells110] at hl
 obtain ⟨c0,c1,c2,c3,rfl⟩:=listLk hl
 obtain ⟨y0,y1,y2,y3,rfl⟩:=listLk hlen
 have h0:=hf 0 _ rfl
 have h1:=hf 1 _ rfl
 have h2:=hf 2 _ rfl
 have h3:=hf 3 _ rfl
 simp [cells64Lk] at h0 h1 h2 h3
 obtain ⟨b0,e0,_,_⟩:=DataW.trod_int Tryz.underlying2 h0
 obtain ⟨b1,e1,_,_⟩:=DataW.trod_int Tryz.underlying2 h1
 obtain ⟨b2,e2,_,_⟩:=DataW.trod_int Tryz.underlying2 h2
 obtain ⟨b3,e3,_,_⟩:=DataW.trod_int Tryz.underlying2 h3
 simp at e0 e1 e2 e3
 subst e0 e1 e2 e3
 exact ⟨⟨b0,b1,b2,b3⟩,rfl⟩
theorem cellsLk {w:World} {base:Nat} {a:Addr} {r:LkI} (h:w.cells? base a 4=some [.int .i64 r.e,.int .i64 r.c,.int .i64 r.p,.int .i64 r.f]):a.spot=none∧QD2 w a.block a.off r:=by
 have e:List.range 4=[0,1,2,3]:=rfl
 unfold World.cells? at h
 split at h
 ·rw [e] at h
  simp only [List.mapM_cons,List.mapM_nil,Option.bind_eq_bind,Option.bind_eq_some_iff,Option.pure_def,Option.some.injEq,List.cons.injEq] at h
  obtain ⟨x0,h0,y0,⟨x1,h1,y1,⟨x2,h2,y2,⟨x3,h3,y3,rfl,e3⟩,e2⟩,e1⟩,e0,ee⟩:=h
  subst e0
  rw [← e1] at ee
  simp only [List.cons.injEq] at ee
  obtain ⟨rfl,ee⟩:=ee
  rw [← e2] at ee
  simp only [List.cons.injEq] at ee
  obtain ⟨rfl,ee⟩:=ee
  rw [← e3] at ee
  simp only [List.cons.injEq] at ee
  obtain ⟨rfl,_⟩:=ee
  obtain ⟨b,off,spot⟩:=a
  have hspot:spot=none:=by simpa [Addr.add] using World.cell?_spot h0
  subst hspot
  simp only [Addr.add] at h0 h1 h2 h3
  exact ⟨rfl,by simpa using h0,by simpa using h1,by simpa using h2,by simpa using h3⟩
 ·cases h
theorem locks_shape {H:Type} {enc:TypeId × Value→H} {w:World} {base:Nat} {spare:Nat→Bool} {held:Bool} {fuel:Nat} {a0:Option Addr} {len cap:Nat} {x:DataW H × List MemPlace} (h:DataW.trod enc Tryz.prog w base spare held fuel 23 [.slice a0 len cap]=some x) :
  ∃ zs:List LkI,LkArg w a0 len zs:=by
 rcases Go.Deep.open_slice Tryz.underlying23 h with ⟨hcs,_⟩ | ⟨a,l,c,m,n,D,Pl,hcs,hb,hl,hm,hmm,_,hel⟩
 ·simp at hcs
  obtain ⟨rfl,rfl,rfl⟩:=hcs
  exact ⟨[],⟨rfl,fun h=>by omega⟩,Nat.zero_le _⟩
 ·simp at hcs
  obtain ⟨rfl,rfl,rfl⟩:=hcs
  have hle:len≤m:=by rw [hmm];split <;> omega
  rw [Tryz.cells110] at hel
  have hk:∀ i,i < len→∃ r:LkI,w.cells? base (a.add (i * 4)) 4=some [.int .i64 r.e,.int .i64 r.c,.int .i64 r.p,.int .i64 r.f]:=fun i hi=>by
   obtain ⟨cs',hc,ht⟩:=hel i (by omega)
   obtain ⟨r,rfl⟩:=lock_list ht
   exact ⟨r,hc⟩
  obtain ⟨f,hf⟩:=Go.Deep.choose_lt hk
  refine ⟨(List.range len).map f,⟨by simp,fun hp=>?_⟩,Nat.le_trans hl hm⟩
  obtain ⟨hsp,_⟩:=cellsLk (hf 0 hp)
  obtain ⟨b,off,spot⟩:=a
  simp [Addr.add] at hsp
  subst hsp
  refine ⟨b,off,rfl,fun k r e=>?_⟩
  have hkl:k < len:=by
   by_cases q:k < len
   ·exact q
   ·rw [List.getElem?_eq_none (by simp;omega)] at e;cases e
  rw [List.getElem?_map,List.getElem?_range hkl] at e
  simp at e
  subst e
  obtain ⟨_,hr⟩:=cellsLk (hf k hkl)
  have : ((⟨b,off,none⟩:Addr).add (k * 4))=⟨b,off+k * 4,none⟩:=Go.WideShapes.add_plain ..
  rw [this] at hr
  exact hr
end

end Go.Proofs.YtdppdbihhlipeaaGreatDoor
