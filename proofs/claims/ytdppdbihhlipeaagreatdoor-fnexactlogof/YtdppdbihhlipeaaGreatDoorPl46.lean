/- Contracts. -/
import Derived.Test.YtdppdbihhlipeaaGreatDoorPl39
namespace Go.Proofs.YtdppdbihhlipeaaGreatDoor
set_option maxRecDepth 100000
set_option maxHeartbeats 8000000
open Go.RowKit
set_option linter.unusedVariables false
set_option linter.unusedSimpArgs false

structure TabL (lo hi:Nat) (w:World) (T n:Nat) (ds:List qA1):Prop where
 tab:qQ1 lo hi w T n ds
 fa:∀ (j:Nat) d,ds[j]? = some d→∀ g,d.fa=some ⟨g,0,none⟩→lo≤g∧g < hi
theorem qN7.blk {w w':World} {g m:Nat} (h:qN7 w g m) (hb:w'.heap[g]? = w.heap[g]?):qN7 w' g m :=
 ⟨fun j hj=>by obtain ⟨x,e⟩:=h.1 j hj;exact ⟨x,(World.cell?_of_block (a:=⟨g,j,none⟩) hb).trans e⟩,fun j=>(World.frozen?_of_block (a:=⟨g,j,none⟩) hb).trans (h.2 j)⟩
theorem QQ5.blk {lo hi:Nat} {w w':World} {x:qE8} (h:QQ5 lo hi w x) (hk:∀ b,lo≤b→b < hi→w'.heap[b]? = w.heap[b]?):QQ5 lo hi w' x:=by
 obtain ⟨h0,g,h1,h2,h3,h4⟩:=h
 exact ⟨h0,g,h1,h2,h3,h4.blk (hk g h2 h3)⟩
theorem TabL.blk {lo hi:Nat} {w w':World} {T n:Nat} {ds:List qA1} (h:TabL lo hi w T n ds) (hk:∀ b,lo≤b→b < hi→w'.heap[b]? = w.heap[b]?):TabL lo hi w' T n ds:=by
 have hT:=hk T h.tab.lo.1 h.tab.lo.2
 have k:∀ o,w'.cell? ⟨T,o,none⟩=w.cell? ⟨T,o,none⟩:=fun o=>World.cell?_of_block (a:=⟨T,o,none⟩) hT
 refine ⟨⟨h.tab.ln,fun j d e=>?_,fun o=>(World.frozen?_of_block (a:=⟨T,o,none⟩) hT).trans (h.tab.fr o),h.tab.lo⟩,h.fa⟩
 obtain ⟨⟨x,h0⟩,⟨y,h1⟩,h2,h3,h4,⟨⟨a0,g,a1,a2,a3,a4⟩,⟨b0,g',b1,b2⟩,⟨c0,g'',c1,c2,c3,c4⟩⟩⟩:=h.tab.at5 j d e
 have hg':=h.fa j d e g' b1
 refine ⟨⟨x,(k _).trans h0⟩,⟨y,(k _).trans h1⟩,(k _).trans h2,(k _).trans h3,(k _).trans h4,⟨⟨a0,g,a1,a2,a3,a4.blk (hk g a2 a3)⟩,⟨b0,g',b1,b2.1,fun q z hz=>⟨(World.cell?_of_block (a:=⟨g',q,none⟩) (hk g' hg'.1 hg'.2)).trans (b2.2 q z hz).1,(b2.2 q z hz).2.blk hk⟩⟩,⟨c0,g'',c1,c2,c3,c4.blk (hk g'' c2 c3)⟩⟩⟩
theorem qH0.tabH {w0 w wA:World} {a:Option Addr} {n:Nat} {cs ds:List qA1} (h:qH0 w0 w n cs ds n) (hn:n≤1048576) (hi:qA5 wA a n cs) (hl:∀ (k:Nat) c,cs[k]? = some c→qD3 1048576 c):qC4 w0.heap.size w.heap.size (fun X=>∃ ds,TabL w0.heap.size w.heap.size X w0.heap.size n ds) w:=by
 refine ⟨⟨ds,h.tab (h.le hn hi hl).1,fun j d e g hg=>?_⟩,Nat.le_refl _,fun X X' hX hk=>?_⟩
 ·obtain ⟨_,g',hg',hlo,hhi,_⟩:=(h.nw j d e).nw.forms
  rw [hg] at hg'
  cases hg'
  exact ⟨by omega,hhi⟩
 ·obtain ⟨es,h1⟩:=hX
  exact ⟨es,h1.blk hk⟩
theorem markTab_c {lo hi n:Nat} (ca:Nat) (k0:Int) {W:World} (hn:n≤1048576) (h0:0≤k0) (h1:k0≤1000000000000000000) (h:∃ ds,TabL lo hi W lo n ds) :
  Calls Tryz.prog 15 #[.slice (some ⟨lo,0,none⟩) n ca,.int .i64 k0] W fun e w'=>∃ k:Int,e = .returned (.int .i64 k)∧(k0≤k∧k≤k0+5497567576066 * (n:Int))∧Chg lo hi W w':=by
 obtain ⟨ds,h4⟩:=h
 refine (QP5 lo hi lo n ca k0 ds W hn h0 h1 h4.tab).mono ?_
 rintro e w' ⟨⟨k,rfl,k1,k2⟩,_,hc⟩
 exact ⟨k,rfl,⟨k1,k2⟩,hc⟩

end Go.Proofs.YtdppdbihhlipeaaGreatDoor
