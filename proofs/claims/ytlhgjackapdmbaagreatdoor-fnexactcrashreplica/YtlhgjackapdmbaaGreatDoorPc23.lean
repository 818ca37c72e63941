/- Contracts. -/
import Derived.Test.YtlhgjackapdmbaaGreatDoorPc22
import Derived.Shelf.SlSortCmp.WholeK
import Derived.Sort.OwnSorted
import Derived.Test.YtlhgjackapdmbaaGreatDoorPc08
import Derived.Test.YtlhgjackapdmbaaGreatDoorPc19
namespace Go.Proofs.YtlhgjackapdmbaaGreatDoor
set_option maxRecDepth 100000
set_option maxHeartbeats 8000000
open Go.RowKit
set_option linter.unusedVariables false
set_option linter.unusedSimpArgs false

theorem iBad_c (v:Int) (w:World):Calls Tryz.prog 146 #[.int .i64 v] w fun e w'=>e = .returned (.bool (inR v 1 2))∧w=w':=by
 unfold inR
 cases h0:decide (1≤v)
 ·go_enter Tryz.func146,Tryz.ntmps146
  go_wp2
  go_ret
  exact ⟨by simp,rfl⟩
 ·cases h1:decide (v≤2)
  all_goals
   go_enter Tryz.func146,Tryz.ntmps146
   go_wp2
   go_ret
   exact ⟨by simp,rfl⟩
theorem l6F_c (v:Int) (w:World):Calls Tryz.prog 113 #[.int .i64 v] w fun e w'=>e = .returned (.bool (inR v 1 2))∧w=w':=by
 go_enter Tryz.func113,Tryz.ntmps113
 go_wp2_with (go_at_call 51;refine (qY3 _ _ _ _).mono ?_;rintro e w' ⟨rfl,rfl⟩)
 go_ret
 exact ⟨rfl,rfl⟩
def GivesNF (fn:Nat) (f c v:Int) (w:World):Prop:=Calls Tryz.prog fn #[.int .i64 f] w fun e w'=>e = .returned (.agg #[.int .i64 c,.int .i64 v])∧Below w.heap.size w w'
def nfCode (f:Int):Int:=if inR f 1 2=true then 0 else 3
def nfVal (k f:Int):Int:=if inR f 1 2=true then k * f+1 else 0
theorem QH4 (f:Int) (w:World):GivesNF 92 f (nfCode f) (nfVal 3 f) w:=by
 unfold GivesNF nfCode nfVal
 cases h:inR f 1 2
 ·have H:Hid (inR f 1 2=false):=h
  clear h
  simp only [Bool.false_eq_true,if_false]
  go_enter Tryz.func92,Tryz.ntmps92
  go_wp2_with (first | (go_at_call 146;refine (iBad_c _ _).mono ?_;rintro e w' ⟨rfl,rfl⟩;rw [H.out]) | go_in)
  go_returns
  exact ⟨rfl,by go_grown⟩
 ·have H:Hid (inR f 1 2=true):=h
  obtain ⟨h1,h2⟩:=(qG5 f 1 2).1 h
  clear h
  simp only [if_true]
  go_enter Tryz.func92,Tryz.ntmps92
  go_wp2_with (first | (go_at_call 146;refine (iBad_c _ _).mono ?_;rintro e w' ⟨rfl,rfl⟩;rw [H.out]) | go_in)
  go_returns
  exact ⟨rfl,by go_grown⟩

section
open Go.RowKit Go.Sort Go.Proofs Go.Lib
def cmpI (x y:Int):Int:=if x < y then -1 else if y < x then 1 else 0
def orC (c d:Int):Int:=if c=0 then d else c
def cfR (p q:RoI):Int:=orC (cmpI p.1 q.1) (cmpI p.2 q.2)
end

section
open Go.RowKit Go.ChangeShapes Go.WideShapes
theorem Tryz.cells203:Tryz.prog.cellsOf 203=5:=by kernel_rfl
theorem list4 {α:Type} {l:List α} (h:l.length=4):∃ a b c d,l=[a,b,c,d]:=by
 match l,h with
 | [a,b,c,d],_=>exact ⟨a,b,c,d,rfl⟩
theorem part_list {H:Type} {enc:TypeId × Value→H} {w:World} {base:Nat} {spare:Nat→Bool} {held:Bool} {fuel:Nat} {cs:List Value} {x:DataW H × List MemPlace} (h:DataW.trod enc Tryz.prog w base spare held fuel 203 cs=some x) :
  ∃ r:qD0,cs=[.int .i64 r.k,.int .i64 r.ro,.int .i64 r.rn,.int .i64 r.l,.int .i64 r.r]:=by
 obtain ⟨xs,n,_,_,hl,hlen,hf⟩:=DataW.trod_struct Tryz.underlying203 h
 rw [Tryz.cells203] at hl
 obtain ⟨c0,c1,c2,c3,c4,rfl⟩:=list5 hl
 obtain ⟨y0,y1,y2,y3,rfl⟩:=list4 hlen
 have g0:=hf 0 _ rfl
 have g1:=hf 1 _ rfl
 have g2:=hf 2 _ rfl
 have g3:=hf 3 _ rfl
 simp [Tryz.cells2,Tryz.cells139] at g0 g1 g2 g3
 obtain ⟨k,e0,_,_⟩:=DataW.trod_int Tryz.underlying2 g0
 obtain ⟨lf,e3,_,_⟩:=DataW.trod_int Tryz.underlying2 g2
 obtain ⟨rt,e4,_,_⟩:=DataW.trod_int Tryz.underlying2 g3
 obtain ⟨ho,hn,e1⟩:=QD2 g1
 simp at e0 e1 e3 e4
 obtain ⟨rfl,rfl⟩:=e1
 subst e0 e3 e4
 exact ⟨⟨k,ho,hn,lf,rt⟩,rfl⟩
theorem cells5 {w:World} {base:Nat} {a:Addr} {r:qD0} (h:w.cells? base a 5=some [.int .i64 r.k,.int .i64 r.ro,.int .i64 r.rn,.int .i64 r.l,.int .i64 r.r]):a.spot=none∧qW6 w a.block a.off r:=by
 have e:List.range 5=[0,1,2,3,4]:=rfl
 unfold World.cells? at h
 split at h
 ·rw [e] at h
  simp only [List.mapM_cons,List.mapM_nil,Option.bind_eq_bind,Option.bind_eq_some_iff,Option.pure_def,Option.some.injEq,List.cons.injEq] at h
  obtain ⟨x0,h0,y0,⟨x1,h1,y1,⟨x2,h2,y2,⟨x3,h3,y3,⟨x4,h4,y4,rfl,e4⟩,e3⟩,e2⟩,e1⟩,e0,ee⟩:=h
  subst e0
  rw [← e1] at ee
  simp only [List.cons.injEq] at ee
  obtain ⟨rfl,ee⟩:=ee
  rw [← e2] at ee
  simp only [List.cons.injEq] at ee
  obtain ⟨rfl,ee⟩:=ee
  rw [← e3] at ee
  simp only [List.cons.injEq] at ee
  obtain ⟨rfl,ee⟩:=ee
  rw [← e4] at ee
  simp only [List.cons.injEq] at ee
  obtain ⟨rfl,_⟩:=ee
  obtain ⟨b,off,spot⟩:=a
  have hspot:spot=none:=by simpa [Addr.add] using World.cell?_spot h0
  subst hspot
  simp only [Addr.add] at h0 h1 h2 h3 h4
  exact ⟨rfl,by simpa using h0,by simpa using h1,by simpa using h2,by simpa using h3,by simpa using h4⟩
 ·cases h
theorem parts_shape {H:Type} {enc:TypeId × Value→H} {w:World} {base:Nat} {spare:Nat→Bool} {held:Bool} {fuel:Nat} {a0:Option Addr} {len cap:Nat} {x:DataW H × List MemPlace} (h:DataW.trod enc Tryz.prog w base spare held fuel 134 [.slice a0 len cap]=some x) :
  ∃ zs:List qD0,QW8 w a0 len zs:=by
 rcases Go.Deep.open_slice Tryz.underlying134 h with ⟨hcs,_⟩ | ⟨a,l,c,m,n,D,Pl,hcs,hb,hl,hm,hmm,_,hel⟩
 ·simp at hcs
  obtain ⟨rfl,rfl,rfl⟩:=hcs
  exact ⟨[],⟨rfl,fun h=>by omega⟩,Nat.zero_le _⟩
 ·simp at hcs
  obtain ⟨rfl,rfl,rfl⟩:=hcs
  have hle:len≤m:=by rw [hmm];split <;> omega
  rw [Tryz.cells203] at hel
  have hk:∀ i,i < len→∃ r:qD0,w.cells? base (a.add (i * 5)) 5=some [.int .i64 r.k,.int .i64 r.ro,.int .i64 r.rn,.int .i64 r.l,.int .i64 r.r]:=fun i hi=>by
   obtain ⟨cs',hc,ht⟩:=hel i (by omega)
   obtain ⟨r,rfl⟩:=part_list ht
   exact ⟨r,hc⟩
  obtain ⟨f,hf⟩:=Go.Deep.choose_lt hk
  refine ⟨(List.range len).map f,⟨by simp,fun hp=>?_⟩,Nat.le_trans hl hm⟩
  obtain ⟨hsp,_⟩:=cells5 (hf 0 hp)
  obtain ⟨b,off,spot⟩:=a
  simp [Addr.add] at hsp
  subst hsp
  refine ⟨b,off,rfl,fun k r e=>?_⟩
  have hkl:k < len:=by
   by_cases q:k < len
   ·exact q
   ·rw [List.getElem?_eq_none (by simp;omega)] at e;cases e
  rw [List.getElem?_map,List.getElem?_range hkl] at e
  simp at e
  subst e
  obtain ⟨_,hr⟩:=cells5 (hf k hkl)
  have : ((⟨b,off,none⟩:Addr).add (k * 5))=⟨b,off+k * 5,none⟩:=Go.WideShapes.add_plain ..
  rw [this] at hr
  exact hr
end

end Go.Proofs.YtlhgjackapdmbaaGreatDoor
