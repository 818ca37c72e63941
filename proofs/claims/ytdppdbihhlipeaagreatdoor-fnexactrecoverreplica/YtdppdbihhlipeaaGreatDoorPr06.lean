/- Contracts. -/
import Derived.Test.YtdppdbihhlipeaaGreatDoorPr04
import Derived.Test.YtdppdbihhlipeaaGreatDoorPr05
import Derived.Test.YtdppdbihhlipeaaGreatDoorPr03
namespace Go.Proofs.YtdppdbihhlipeaaGreatDoor
set_option maxRecDepth 100000
set_option maxHeartbeats 8000000
open Go.RowKit
set_option linter.unusedVariables false
set_option linter.unusedSimpArgs false

theorem qR1 (w:World) (row:Option Nat):w.grownBy w row:=⟨rfl,rfl,rfl,Nat.le_refl _,fun _ _ _=>rfl⟩
theorem qM2 {a b c:World} {row:Option Nat} (h:a.grownBy b row) (k:b.grownBy c row):a.grownBy c row :=
 ⟨k.os.trans h.os,k.tape.trans h.tape,k.output.trans h.output,Nat.le_trans h.size k.size,fun q hq hne=>(k.block q (Nat.lt_of_lt_of_le hq h.size) hne).trans (h.block q hq hne)⟩
theorem QO5 (w:World) (g j:Nat) (v:Value):w.grownBy (w.setCell ⟨g,j,none⟩ v) (some g) :=
 ⟨rfl,rfl,rfl,by simp [World.setCell],fun k _ hk=>Below.heap_setCell _ _ _ _ (fun e=>hk (by rw [e]))⟩

def qC9 (w:World) (a:Option Addr) (n:Nat) (zs:List Int):Prop:=zs.length=n/\(0 < n->∃ b off,a=some ⟨b,off,none⟩/\∀ k x,zs[k]? = some x->w.cell? ⟨b,off+k,none⟩=some (.int .i64 x))
theorem qC9.below {w w':World} {a:Option Addr} {n:Nat} {zs:List Int} (h:qC9 w a n zs) (hb:Below w.heap.size w w'):qC9 w' a n zs:=by
 refine ⟨h.1,fun hn=>?_⟩;obtain ⟨b,off,e,k⟩:=h.2 hn;exact ⟨b,off,e,fun j x hx=>(hb.cell (p:=⟨b,off+j,none⟩) (zL w ⟨b,off+j,none⟩ (k j x hx))).trans (k j x hx)⟩
theorem qC9.at {w:World} {a:Option Addr} {n:Nat} {zs:List Int} (h:qC9 w a n zs) {k:Nat} (hk:k < n):∃ b off x,a=some ⟨b,off,none⟩/\zs[k]? = some x/\w.cell? ⟨b,off+k,none⟩=some (.int .i64 x)/\b < w.heap.size:=by
 obtain ⟨b,off,e,q⟩:=h.2 (by omega);have hx:=List.getElem?_eq_getElem (l:=zs) (i:=k) (by rw [h.1];exact hk);exact ⟨b,off,_,e,hx,q k _ hx,zL w ⟨b,off+k,none⟩ (q k _ hx)⟩
theorem qC9.row {w:World} {a:Option Addr} {n:Nat} {zs:List Int} (h:qC9 w a n zs):QZ1 w a n zs:=by
 refine ⟨by rw [h.1];exact Nat.le_refl _,fun k hk=>?_⟩;obtain ⟨b,off,x,e,hx,hc,_⟩:=h.at hk
 exact ⟨b,off,e,by rw [hx];exact hc⟩
theorem QZ1.ints {w:World} {a:Option Addr} {n:Nat} {zs:List Int} (h:QZ1 w a n zs):qC9 w a n (zs.take n):=by
 have hl:=h.1;refine ⟨by simp;omega,fun hp=>?_⟩;obtain ⟨b,off,e,_⟩:=h.2 0 hp;refine ⟨b,off,e,fun k x hx=>?_⟩
 have hk:k < n:=by
  by_cases q:k < n
  ·exact q
  ·rw [List.getElem?_eq_none (by simp;omega)] at hx;cases hx
 obtain ⟨b',off',e',hc⟩:=h.2 k hk;rw [e] at e';cases e';rw [List.getElem?_take,if_pos hk] at hx;rw [hx] at hc;exact hc
def qHq (w:World) (g:Nat) (zs:List Int):Prop:=∀ k x,zs[k]? = some x->w.cell? ⟨g,k,none⟩=some (.int .i64 x)
theorem qC9.of {w:World} {g n:Nat} {zs:List Int} (hl:zs.length=n) (h:qHq w g zs):qC9 w (some ⟨g,0,none⟩) n zs :=
 ⟨hl,fun _=>⟨g,0,rfl,fun k x e=>by rw [Nat.zero_add];exact h k x e⟩⟩
def qH9 (w:World) (g n:Nat):Prop:=(∀ j,j < n->∃ v,w.cell? ⟨g,j,none⟩=some v)/\∀ j,w.frozen? ⟨g,j,none⟩=false
theorem qH9.below {w w':World} {g n:Nat} (h:qH9 w g n) (hg:g < w.heap.size) (hb:Below w.heap.size w w'):qH9 w' g n :=
 ⟨fun j hj=>by obtain ⟨v,e⟩:=h.1 j hj;exact ⟨v,(hb.cell (p:=⟨g,j,none⟩) hg).trans e⟩,fun j=>(hb.frozen (p:=⟨g,j,none⟩) hg).trans (h.2 j)⟩
theorem qH9.set {w:World} {g n:Nat} (h:qH9 w g n) (o:Nat) (v:Value):qH9 (w.setCell ⟨g,o,none⟩ v) g n:=by
 refine ⟨fun j hj=>?_,fun j=>by simp only [World.frozen?_setCell];exact h.2 j⟩;obtain ⟨u,e⟩:=h.1 j hj;by_cases q:j=o
 ·subst q;exact ⟨v,by simp [go_sem,e]⟩
 ·exact ⟨u,by rw [World.cell?_setCell_other (h:=fun e=>q (by have:=congrArg Addr.off e;simp at this;omega))];exact e⟩
theorem qFB {w w':World} {a:Option Addr} {n L:Nat} {zs:List Int} {row:Option Nat} (h:qC9 w a n zs) (hg:w.grownBy w' row) (hL:∀ b off,a=some ⟨b,off,none⟩->n=0\/b < L) (hne:∀ q,row=some q->L<=q):qC9 w' a n zs:=by
 refine ⟨h.1,fun hp=>?_⟩;obtain ⟨b,off,e,hr⟩:=h.2 hp
 have hb:b < L:=by
  rcases hL b off e with h0 | h0
  ·omega
  ·exact h0
 exact ⟨b,off,e,fun k r hk=>hg.cell (hr k r hk) (fun q=>by have:=hne b q.symm;omega)⟩
theorem qLy {w:World} {a:Option Addr} {n:Nat} {zs:List Int} (h:qC9 w a n zs):∀ b off,a=some ⟨b,off,none⟩->n=0\/b < w.heap.size:=by
 intro b off e;by_cases h0:n=0
 ·exact .inl h0
 ·obtain ⟨b',off',r,e',_,_,hb⟩:=h.at (show 0 < n by omega)
  rw [e] at e';cases e';exact .inr hb
theorem qR5 (a:Option Addr) (n cap:Nat) (zs:List Int) (w:World) (hn:n<=1048576) (h:qC9 w a n zs) :
  Calls Tryz.prog 19 #[.slice a n cap] w fun e w'=>e = .returned (.slice (some ⟨w.heap.size,0,none⟩) n n)/\qHq w' w.heap.size zs/\w.heap.size < w'.heap.size/\Below w.heap.size w w'/\qH9 w' w.heap.size n:=by
 refine (qMn a n cap zs w hn h.row).mono ?_;rintro e w' ⟨rfl,hown,hb⟩;have hz:zs.length=n:=h.1;have hl:=hown.1;refine ⟨rfl,fun k x hx=>?_,qIZ hown,hb,fun j hj=>⟨_,(hown.cellAt j (by omega)).trans (List.getElem?_eq_getElem (by omega))⟩,fun j=>hown.frozenAt j⟩
 have hk:k < n:=by
  by_cases q:k < n
  ·exact q
  ·rw [List.getElem?_eq_none (by omega)] at hx;cases hx
 have:=qBw hown (by omega) k hk;rw [hx] at this;exact this
theorem QH1 (a b:Option Addr) (n c d:Nat) (zs:List Int) (w:World) (hn:n<=1048576) (ha:qC9 w a n zs) (hb:qC9 w b n zs) :
  Calls Tryz.prog 22 #[.slice a n c,.slice b n d] w fun e w'=>e = .returned (.bool true)/\Below w.heap.size w w' :=
 qJJ a b n c d zs w hn ha.row.2 hb.row.2
