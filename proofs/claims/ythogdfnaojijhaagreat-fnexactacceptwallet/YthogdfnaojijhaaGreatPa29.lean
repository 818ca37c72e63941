/- Contracts. -/
import Derived.Test.YthogdfnaojijhaaGreatPa20
import Derived.Test.YthogdfnaojijhaaGreatPa28
namespace Go.Proofs.YthogdfnaojijhaaGreat
set_option maxRecDepth 100000
set_option maxHeartbeats 8000000
open Go.RowKit
set_option linter.unusedVariables false
set_option linter.unusedSimpArgs false

theorem path_set {w:World} {g:Nat} {x:Value} {t:TypeId} (h:w.heap[g]? = some (.cells #[x] t (0,0))) (v:Value):(w.setCell ⟨g,0,none⟩ v).heap[g]? = some (.cells #[v] t (0,0)):=by
 obtain ⟨hlt,hk⟩:=Array.getElem?_eq_some_iff.1 h
 show (w.heap.modify g _)[g]? = _
 rw [Array.getElem?_eq_getElem (by rw [Array.size_modify];exact hlt),Array.getElem_modify_self,hk]
 simp
theorem QG4 {w:World} {g b:Nat} {c c':Array Value} {t t':TypeId} {q q':Nat × Nat} (h:w.heap[g]? = some (.cells c t q)) (h':w.heap[b]? = some (.cells c' t' q')) (ht:t≠t'):g≠b:=by
 rintro rfl
 have:=Option.some.inj (h.symm.trans h')
 injection this with _ e _
 exact ht e
theorem qV5 {w:World} {B n:Nat} {v:Value} {xs:List Value} (h:w.ownsRow B 2 1 v n xs) (hn:0 < n):∃ g c,v = .slice (some ⟨g,0,none⟩) n c∧∃ cur q,w.heap[g]? = some (.cells cur 2 q):=by
 have hl:=h.1
 rcases h.2 with ⟨_,h2⟩ | ⟨g,cp,cur,h1,_,hb,_⟩
 ·rw [h2] at hl;simp at hl;omega
 ·exact ⟨g,cp,h1,cur,_,hb⟩
theorem QL3 (Pb L g c i:Nat) (l:List Nat) (w:World) (hl0:0 < l.length) (hl:l.length≤1000) (hL:L≤Pb) (h:qM2 w Pb L l g c) :
  Calls Tryz.prog 111 #[.pointer (some ⟨Pb,0,none⟩),.int .i64 (i:Int)] w fun e w'=>e = .returned (.tuple #[])∧(∃ g' c',qM2 w' Pb L (l++[i]) g' c')∧Below L w w':=by
 obtain ⟨i0,hi,hz0,hz1,hz2⟩:=info_parts Tryz.infoI2
 have HN:Hid (g≠Pb):=by
  obtain ⟨g1,c1,e1,cur,q,hcur⟩:=qV5 h.ow hl0
  cases e1
  exact QG4 hcur h.bx (by decide)
 obtain ⟨n,hn⟩:∃ n,l.length=n:=⟨_,rfl⟩
 obtain ⟨xs,hxs⟩:∃ xs,l.map (fun p:Nat=>Value.int .i64 (p:Int))=xs:=⟨_,rfl⟩
 have HXS:Hid (l.map (fun p:Nat=>Value.int .i64 (p:Int))=xs∧l.length=n):=⟨hxs,hn⟩
 have HO:Hid (w.ownsRow L 2 1 (.slice (some ⟨g,0,none⟩) n c) n xs):=by
  have:=h.ow
  rw [hn,hxs] at this
  exact this
 have HB:Hid (w.heap[Pb]? = some (.cells #[.slice (some ⟨g,0,none⟩) n c] 130 (0,0))):=by
  have:=h.bx
  rw [hn] at this
  exact this
 have hc0:w.cell? ⟨Pb,0,none⟩=some (.slice (some ⟨g,0,none⟩) n c):=by
  unfold World.cell?
  simp only
  rw [HB.out]
  simp
 have hpl:Pb < w.heap.size:=zL w _ hc0
 have hn':n≤1000:=by omega
 have hLw:L≤w.heap.size:=by omega
 clear h hxs hn hl hl0
 go_enter Tryz.func111,Tryz.ntmps111
 go_wp2_with (first
  | (at_builtin;refine wpList_append_own _ rfl _ _ 30 rfl L 2 i0 (.int .i64 0) 1 8 Tryz.underlying30 hi hz0 hz1 hz2 rfl (by decide) _ _ _ rfl (HO.out.alloc _) ⟨w.heap.size,0,none⟩ 1 1 [.int .i64 (i:Int)] rfl rfl ?c1 ?c2 ?c3 ?c4 ?c5 ?_)
  | fail)
 case c1 =>
  intro j u hj
  match j,hj with
  | 0,hj=>simp at hj;subst hj;simp [Addr.add]
 case c2=>intro u hu;simp at hu;subst hu;rfl
 case c3=>unfold maxLen;omega
 case c4=>omega
 case c5=>simp;omega
 intro v' w9 hown' hgrow hnil
 have HB9:Hid (w9.heap[Pb]? = some (.cells #[.slice (some ⟨g,0,none⟩) n c] 130 (0,0))):=by
  have h1:=hgrow.block Pb (by simp;omega) (fun e=>HN.out (by simp [Value.ownBlock] at e;exact e.symm))
  refine h1.trans ?_
  show (w.heap.push _)[Pb]? = _
  rw [Array.getElem?_push_lt hpl,← Array.getElem?_eq_getElem hpl]
  exact HB.out
 have hc9:w9.cell? ⟨Pb,0,none⟩=some (.slice (some ⟨g,0,none⟩) n c):=by
  unfold World.cell?
  simp only
  rw [HB9.out]
  simp
 have hf9:w9.frozen? ⟨Pb,0,none⟩=false:=by
  unfold World.frozen?
  simp only
  rw [HB9.out]
  simp
 have hpl9:=zL w9 _ hc9
 obtain ⟨g',c',rfl,cur,q,hcur⟩:=qV5 hown' (by omega)
 have HN9:Hid (g'≠Pb):=QG4 hcur HB9.out (by decide)
 have HB2:Hid (Below L w w9):=((Below.refl L w).alloc hLw _).grown hgrow (by simp;omega) (fun j hj=>(HO.out.lt j hj).1)
 have HO9:Hid (w9.ownsRow L 2 1 (.slice (some ⟨g',0,none⟩) (n+1) c') (n+1) (xs++[.int .i64 (i:Int)])):=hown'
 clear hown' hgrow hnil hcur
 go_wp2_with fail
 first | go_end0 | go_returns
 refine ⟨rfl,⟨g',c',⟨?_,?_⟩⟩,HB2.out.setCell hL _⟩
 ·rw [List.length_append,HXS.out.2]
  exact path_set HB9.out _
 ·rw [List.length_append,List.map_append,HXS.out.2,HXS.out.1]
  exact qT4 HO9.out (fun b e=>Below.heap_setCell _ _ _ _ (by simp [Value.ownBlock] at e;subst e;exact HN9.out))

end Go.Proofs.YthogdfnaojijhaaGreat
