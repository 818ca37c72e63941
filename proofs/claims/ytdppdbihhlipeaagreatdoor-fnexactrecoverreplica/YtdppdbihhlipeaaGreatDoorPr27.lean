/- Contracts. -/
import Derived.Test.YtdppdbihhlipeaaGreatDoorPr04
namespace Go.Proofs.YtdppdbihhlipeaaGreatDoor
set_option maxRecDepth 100000
set_option maxHeartbeats 8000000
open Go.RowKit
set_option linter.unusedVariables false
set_option linter.unusedSimpArgs false

theorem QD6 {α:Type} [DecidableEq α]:∀ (l L:List α),l.Nodup->(∀ x∈l,x∈L)->l.length<=L.length
 | [],_,_,_=>by simp
 | x::xs,L,h,hs=>by
  have h':=List.nodup_cons.1 h;have hx:x∈L:=hs x (by simp);have:=QD6 xs (L.erase x) h'.2 (fun y hy=>(List.mem_erase_of_ne (fun e=>h'.1 (by rw [<- e];exact hy))).2 (hs y (by simp [hy])));rw [List.length_erase_of_mem hx] at this;have : 0 < L.length:=List.length_pos_of_mem hx;simp only [List.length_cons];omega
theorem qDI {α:Type} (f g:α->Int):∀ (l:List α),(∀ x∈l,f x<=g x)->(l.map f).sum<=(l.map g).sum
 | [],_=>by simp
 | x::xs,h=>by
  have:=qDI f g xs (fun y hy=>h y (by simp [hy]));have:=h x (by simp);simp only [List.map_cons,List.sum_cons];omega
theorem QS0 {α:Type} (f g:α->Int) (a:α):∀ (l:List α),(∀ x∈l,f x<=g x)->a∈l->f a < g a->(l.map f).sum < (l.map g).sum
 | [],_,h,_=>by cases h
 | x::xs,h,ha,hlt=>by
  have hx:=h x (by simp);have hm:=qDI f g xs (fun y hy=>h y (by simp [hy]));simp only [List.map_cons,List.sum_cons];rcases List.mem_cons.1 ha with rfl | ha'
  ·omega
  ·have:=QS0 f g a xs (fun y hy=>h y (by simp [hy])) ha' hlt;omega
def QY9:List RoI:=(List.range 8).flatMap (fun (i:Nat)=>(List.range 5).map (fun (j:Nat)=>((((i:Int)+1),((j:Int)+1)):RoI)))
theorem qBP:QY9.length=40:=by decide
theorem QM9 {r:RoI} (h:qD6 r.1 r.2=true):r∈QY9:=by
 obtain ⟨a,b⟩:=r;simp [qD6,qU0,qV1] at h;unfold QY9;rw [List.mem_flatMap];obtain ⟨⟨h1,h2⟩,h3,h4⟩:=h;obtain ⟨i,rfl⟩:∃ i:Nat,a=(i:Int)+1:=⟨(a - 1).toNat,by omega⟩;obtain ⟨j,rfl⟩:∃ j:Nat,b=(j:Int)+1:=⟨(b - 1).toNat,by omega⟩;have hi:i < 8:=by omega
 have hj:j < 5:=by omega
 exact ⟨i,List.mem_range.2 hi,List.mem_map.2 ⟨j,List.mem_range.2 hj,rfl⟩⟩
structure FN (f:RoI->Int):Prop where
 st:∀ r,qK9 (f r)
 ro:∀ r,f r≠0->qD6 r.1 r.2=true
def qBV:RoI->Int:=fun _=>0
def qS1 (f:RoI->Int) (r:RoI) (s:Int):RoI->Int:=fun r'=>if r'=r then orI (f r) s else f r'
theorem qHT:FN qBV:=⟨fun _=>⟨Int.le_refl _,show (0:Int)<=255 by decide⟩,fun _ h=>absurd rfl h⟩
theorem qLA {f:RoI->Int} (h:FN f) {r:RoI} (hr:qD6 r.1 r.2=true) {s:Int} (hs:qK9 s):FN (qS1 f r s):=by
 refine ⟨fun r'=>?_,fun r' hn=>?_⟩
 ·unfold qS1;split
  ·exact qAO (h.st _) hs
  ·exact h.st _
 ·unfold qS1 at hn;split at hn
  ·rename_i e;rw [e];exact hr
  ·exact h.ro _ hn
theorem qKb {a b:Int} (ha:qK9 a) (hb:qK9 b):orI a b=a↔∀ p,1<=p->qI5 b p=true->qI5 a p=true:=by
 constructor
 ·intro e p _ q;have:=QO2 ha hb p;rw [e,q,Bool.or_true] at this;exact this
 ·intro h;refine qFw (qAO ha hb) ha (fun p h0 _=>?_);rw [QO2 ha hb];cases q:qI5 b p
  ·simp
  ·rw [h p h0 q];rfl
theorem QO3 {f:RoI->Int} (h:FN f) (r:RoI) {s:Int} (hs:qK9 s) (r':RoI) (p:Int):qI5 (qS1 f r s r') p=true↔qI5 (f r') p=true\/(r'=r/\qI5 s p=true):=by
 unfold qS1;split
 ·rename_i e;subst e;rw [QO2 (h.st _) hs];simp
 ·rename_i e;simp [e]
theorem qAp {f:RoI->Int} {r:RoI} {s:Int} (e:orI (f r) s=f r):qS1 f r s=f:=by
 funext r'
 unfold qS1;split
 ·rename_i q;subst q;exact e
 ·rfl
theorem qKR {f:RoI->Int} (hf:FN f) {rs:List RoI} (hs:SS rs) (hm:∀ r,r∈rs↔f r≠0):SG (rs.map (fun r=>(r,f r)))/\ofG (rs.map (fun r=>(r,f r)))=f:=by
 have h1:SG (rs.map (fun r=>(r,f r))):=by
  refine ⟨List.pairwise_map.2 hs,fun x hx=>?_,fun x hx=>?_⟩
  ·obtain ⟨r,hr,rfl⟩:=List.mem_map.1 hx;exact hf.ro r ((hm r).1 hr)
  ·obtain ⟨r,hr,rfl⟩:=List.mem_map.1 hx;have:=(hm r).1 hr;have:=hf.st r;unfold qK9 at this;show 1<=f r/\f r<=255
   omega
 refine ⟨h1,funext fun r=>?_⟩;by_cases q:f r=0
 ·rw [q];refine qDZ (fun x hx e=>?_);obtain ⟨r',hr,rfl⟩:=List.mem_map.1 hx;exact (hm r').1 hr (by rw [show r'=r from e];exact q)
 ·exact qBy h1 (x:=(r,f r)) (List.mem_map.2 ⟨r,(hm r).2 q,rfl⟩)
def qDJ (f:RoI->Int):Int:=(QY9.map f).sum
theorem qFl {f:RoI->Int} (h:FN f):0<=qDJ f/\qDJ f<=10200:=by
 have e1:∀ (l:List RoI),0<=(l.map f).sum/\(l.map f).sum<=255 * l.length:=by
  intro l;induction l with
  | nil=>simp
  | cons x xs ih =>
   have:=h.st x;unfold qK9 at this;simp only [List.map_cons,List.sum_cons,List.length_cons];omega
 have:=e1 QY9;rw [qBP] at this;unfold qDJ;omega
theorem qFk {f:RoI->Int} (h:FN f) {r:RoI} (hr:qD6 r.1 r.2=true) {s:Int} (hs:qK9 s) (hn:orI (f r) s≠f r):qDJ f < qDJ (qS1 f r s):=by
 refine QS0 f _ r QY9 (fun x _=>?_) (QM9 hr) ?_
 ·unfold qS1;split
  ·rename_i e;subst e;exact qId (h.st _) hs
  ·exact Int.le_refl _
 ·have:=qId (h.st r) hs;unfold qS1;rw [if_pos rfl];omega
def qG8 (z:qA2) (h:RoI):Bool:=decide (z.k=3/\z.tn=h.2) || decide (h∈qCr z)
theorem qAW {f g:RoI->Int} {n:Int} (h:∀ y,f (y,n)=g (y,n)) (ys:List Int) (k:Nat):qL7 f n ys k=qL7 g n ys k:=by
 have : (fun (o:Int) (y:Int)=>orI o (f (y,n)))=fun o y=>orI o (g (y,n)):=by
  funext o y
  rw [h y]
 unfold qL7;rw [this]
theorem qJN {f:RoI->Int} {z:qA2} {h:RoI} {s:Int} (hk:1<=z.k/\z.k<=4) (hl:qG8 z h=false):byF (qS1 f h s) z=byF f z:=by
 unfold qG8 at hl;rw [Bool.or_eq_false_iff] at hl;obtain ⟨h1,h2⟩:=hl;have h1:=of_decide_eq_false h1;have h2:=of_decide_eq_false h2;unfold qCr at h2;have off:∀ r,r≠h->qS1 f h s r=f r:=fun r e=>if_neg e
 unfold byF;by_cases e1:z.k=1
 ·simp only [if_pos e1]
 ·simp only [if_neg e1] at h2 ⊢
  by_cases e2:z.k=2
  ·simp only [if_pos e2];rw [if_neg (by omega)] at h2;exact off _ (fun e=>h2 (by rw [e];simp))
  ·simp only [if_neg e2];by_cases e4:z.k=4
   ·simp only [if_pos e4] at h2 ⊢
    rw [off _ (fun e=>h2 (by rw [e];simp)),off _ (fun e=>h2 (by rw [e];simp))]
   ·simp only [if_neg e4] at h2 ⊢
    have e3:z.k=3:=by omega
    rw [off (z.oo,z.on) (fun e=>h2 (by rw [e];simp))];exact qAW (fun y=>off _ (fun e=>h1 ⟨e3,by rw [<- e]⟩)) _ _
def qF3 (zs:List qA2) (h:RoI) (ws:List qA2) (k:Nat):List qA2:=(zs.take k).foldl (fun o z=>if qG8 z h=true/\z ∉ o then o++[z] else o) ws
theorem QA9 {zs:List qA2} {k:Nat} {z:qA2} (e:zs[k]? = some z) (h:RoI) (ws:List qA2):qF3 zs h ws (k+1)=if qG8 z h=true/\z ∉ qF3 zs h ws k then qF3 zs h ws k++[z] else qF3 zs h ws k:=by
 have hk:k < zs.length:=by
  by_cases q:k < zs.length
  ·exact q
  ·rw [List.getElem?_eq_none (by omega)] at e;cases e
 have e:zs[k]=z:=by rw [List.getElem?_eq_getElem hk] at e;exact Option.some.inj e
 rw [qF3,List.take_succ_eq_append_getElem hk,List.foldl_append,e];rfl
theorem QC3 (h:RoI) (all:List qA2):∀ (zs ws:List qA2),(∀ z∈zs,z∈all)->(∀ z∈ws,z∈all)->ws.Nodup ->
  let o:=zs.foldl (fun o z=>if qG8 z h=true/\z ∉ o then o++[z] else o) ws
  o.Nodup/\(∀ z∈o,z∈all)/\(∀ z∈ws,z∈o)/\(∀ z∈zs,qG8 z h=true->z∈o)
 | [],ws,_,hs,hn=>⟨hn,hs,fun _ q=>q,fun _ q=>by cases q⟩
 | x::xs,ws,hz,hs,hn=>by
  have hx:x∈all:=hz x (by simp);by_cases q:qG8 x h=true/\x ∉ ws
  ·have hn':(ws++[x]).Nodup:=List.nodup_append.2 ⟨hn,by simp,fun a ha b hb e=>q.2 (by simp at hb;rw [<- hb,<- e];exact ha)⟩
   have hs':∀ z∈ws++[x],z∈all:=fun z hzz=>by
    rcases List.mem_append.1 hzz with q | q
    ·exact hs z q
    ·simp at q;rw [q];exact hx
   obtain ⟨i1,i2,i3,i4⟩:=QC3 h all xs (ws++[x]) (fun z hzz=>hz z (by simp [hzz])) hs' hn';rw [List.foldl_cons,if_pos q];refine ⟨i1,i2,fun z hzz=>i3 z (by simp [hzz]),fun z hzz hl=>?_⟩;rcases List.mem_cons.1 hzz with rfl | hzz'
   ·exact i3 z (by simp)
   ·exact i4 z hzz' hl
  ·obtain ⟨i1,i2,i3,i4⟩:=QC3 h all xs ws (fun z hzz=>hz z (by simp [hzz])) hs hn;rw [List.foldl_cons,if_neg q];refine ⟨i1,i2,i3,fun z hzz hl=>?_⟩;rcases List.mem_cons.1 hzz with rfl | hzz'
   ·exact i3 z (Classical.byContradiction fun e=>q ⟨hl,e⟩)
   ·exact i4 z hzz' hl
structure qBT (zs:List qA2) (f:RoI->Int) (ws:List qA2):Prop where
 fn:FN f
 has:∀ r p,1<=p->qI5 (f r) p=true->Has zs r p
 sub:∀ z∈ws,z∈zs
 nd:ws.Nodup
 done:∀ z∈zs,z ∉ ws->∀ p,1<=p->qI5 (byF f z) p=true->qI5 (f (z.ho,z.hn)) p=true
theorem qBT.len {zs:List qA2} {f:RoI->Int} {ws:List qA2} (h:qBT zs f ws):ws.length<=zs.length:=QD6 _ _ h.nd h.sub
theorem qEH {zs:List qA2} (hn:zs.Nodup):qBT zs qBV zs :=
 ⟨qHT,fun r p _ q=>by simp [qBV,QE2] at q,fun _ q=>q,hn,fun z h1 h2=>absurd h1 h2⟩
theorem qFd {zs:List qA2} {f:RoI->Int} {z:qA2} {ws:List qA2} (h:qBT zs f (z::ws)) (hok:okR z) (e:orI (f (z.ho,z.hn)) (byF f z)=f (z.ho,z.hn)):qBT zs f ws:=by
 refine ⟨h.fn,h.has,fun x hx=>h.sub x (by simp [hx]),(List.nodup_cons.1 h.nd).2,fun x h1 h2 p hp q=>?_⟩;by_cases ex:x=z
 ·subst ex;exact (qKb (h.fn.st _) (QP3 h.fn.st hok)).1 e p hp q
 ·exact h.done x h1 (fun m=>by rcases List.mem_cons.1 m with m | m;exact ex m;exact h2 m) p hp q
theorem qFe {zs:List qA2} (hz:∀ z∈zs,okR z/\1<=z.k/\z.k<=4) {f:RoI->Int} {z:qA2} {ws:List qA2} (h:qBT zs f (z::ws)) :
  qBT zs (qS1 f (z.ho,z.hn) (byF f z)) (qF3 zs (z.ho,z.hn) ws zs.length):=by
 have hok:∀ z∈zs,okR z:=fun z q=>(hz z q).1
 have hzz:z∈zs:=h.sub z (by simp);have hs:=QP3 h.fn.st (hok z hzz);have hf:=qLA h.fn (r:=(z.ho,z.hn)) (hok z hzz).1 hs;have hnd:=List.nodup_cons.1 h.nd;have w:=QC3 (z.ho,z.hn) zs zs ws (fun _ q=>q) (fun x hx=>h.sub x (by simp [hx])) hnd.2
 have ew:qF3 zs (z.ho,z.hn) ws zs.length=zs.foldl (fun o x=>if qG8 x (z.ho,z.hn)=true/\x ∉ o then o++[x] else o) ws:=by
  unfold qF3;rw [List.take_length]
 rw [ew];obtain ⟨w1,w2,w3,w4⟩:=w;refine ⟨hf,fun r p hp q=>?_,w2,w1,fun x hx hx2 p hp q=>?_⟩
 ·rcases (QO3 h.fn _ hs r p).1 q with q | ⟨e,q⟩
  ·exact h.has r p hp q
  ·rw [e];exact qHN hok hzz hp (QT8 (fun r p hp q=>h.has r p hp q) hp ((qCp h.fn.st (hok z hzz) hp).1 q))
 ·have hl:qG8 x (z.ho,z.hn)=false:=by
   cases e:qG8 x (z.ho,z.hn)
   ·rfl
   ·exact absurd (w4 x hx e) hx2
  rw [qJN (hz x hx).2 hl] at q;by_cases ex:x=z
  ·subst ex;exact (QO3 h.fn _ hs _ p).2 (.inr ⟨rfl,q⟩)
  ·refine (QO3 h.fn _ hs _ p).2 (.inl (h.done x hx (fun m=>?_) p hp q));rcases List.mem_cons.1 m with m | m
   ·exact ex m
   ·exact hx2 (w3 x m)
theorem qHu {zs:List qA2} (hz:∀ z∈zs,okR z) {f:RoI->Int} (h:qBT zs f []) {gs:List GrI} (hg:SG gs) (e:ofG gs=f):QJ9 zs gs:=by
 subst e;exact qHk hz hg h.has (fun z hzz p hp q=>h.done z hzz (by simp) p hp q)
