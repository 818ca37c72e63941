/- Contracts. -/
import Derived.Test.YtdppdbihhlipeaaGreatDoorPr13
import Derived.Test.YtdppdbihhlipeaaGreatDoorPr09
import Derived.WalkLawsBesides
import Derived.Defers
import Derived.Recover
namespace Go.Proofs.YtdppdbihhlipeaaGreatDoor
set_option maxRecDepth 100000
set_option maxHeartbeats 8000000
open Go.RowKit
set_option linter.unusedVariables false
set_option linter.unusedSimpArgs false

theorem qFn {x:StI} (hk:inR x.k 1 4=true) (h:x.k < 3):qB5 x=if x.n=0 then (if inR x.e 1 9=false then 3 else if inR x.f 1 4=false then 3 else if inR x.s 1 255=false then 3 else 0) else 1:=by
 obtain ⟨k,e,f,s,n⟩:=x;simp only at hk h ⊢
 have hf:QI2 k=true:=by rw [qE7] at hk;have : k=1\/k=2:=(by omega);rcases this with rfl | rfl <;> rfl
 have ho:qIc ⟨k,e,f,s,n⟩=decide (n=0):=by
  unfold qIc qEi;simp only [hf,if_true,qP0];simp [eq_comm]
 unfold qB5 qHs;simp only [hk,ho,hf];by_cases h0:n=0
 ·subst h0;cases inR e 1 9 <;> cases inR f 1 4 <;> cases inR s 1 255 <;> simp
 ·simp [h0]
theorem qFm {x:StI} (hk:inR x.k 1 4=true) (h:3<=x.k):qB5 x=if x.f=0/\x.s=0 then (if inR x.e 1 9=false then 3 else if inR x.n 0 7=false then 3 else 0) else 1:=by
 obtain ⟨k,e,f,s,n⟩:=x;simp only at hk h ⊢
 have hf:QI2 k=false:=by rw [qE7] at hk;have : k=3\/k=4:=(by omega);rcases this with rfl | rfl <;> rfl
 have ho:qIc ⟨k,e,f,s,n⟩=decide (f=0/\s=0):=by
  unfold qIc qEi;simp only [hf,qP0];simp
 unfold qB5 qHs;simp only [hk,ho,hf];by_cases h0:f=0/\s=0
 ·obtain ⟨rfl,rfl⟩:=h0;cases inR e 1 9 <;> cases inR n 0 7 <;> simp
 ·simp [h0]
theorem qNJ:inR 0 0 7=true:=rfl
theorem qJ4 (b o:Nat) (x:StI) (w:World) (h:qL3 w b o x):Calls Tryz.prog 59 #[.pointer (some ⟨b,o,none⟩)] w fun e w'=>e = .returned (.int .i64 (qB5 x))/\w=w':=by
 obtain ⟨x0,x1,x2,x3,x4⟩:=h;cases hk:inR x.k 1 4
 ·have hC:qB5 x=1:=by unfold qB5;rw [if_pos hk]
  rw [hC];clear hC;go_enter Tryz.func59,Tryz.ntmps59;go_wp2_with (first | (go_at_call 57;refine (qX7 _ _ _ _).mono ?_;rintro e w' ⟨rfl,rfl⟩;rw [hk]))
  go_ret;exact ⟨rfl,rfl⟩
 ·by_cases h3:3<=x.k
  ·rw [qFm hk h3];by_cases f0:x.f=0
   ·by_cases s0:x.s=0
    ·rw [if_pos ⟨f0,s0⟩];rw [f0] at x2;rw [s0] at x3;clear f0 s0;cases he:inR x.e 1 9
     ·go_enter Tryz.func59,Tryz.ntmps59;go_wp2_with (first | (go_at_call 57;refine (qX7 _ _ _ _).mono ?_;rintro e w' ⟨rfl,rfl⟩;rw [hk]) | (go_at_call 89;refine (qS7 _ _).mono ?_;rintro e w' ⟨rfl,rfl⟩;rw [he]))
      go_ret;exact ⟨rfl,rfl⟩
     ·cases hn:inR x.n 0 7
      all_goals
       go_enter Tryz.func59,Tryz.ntmps59;go_wp2_with (first | (go_at_call 57;refine (qX7 _ _ _ _).mono ?_;rintro e w' ⟨rfl,rfl⟩;rw [hk]) | (go_at_call 89;refine (qS7 _ _).mono ?_;rintro e w' ⟨rfl,rfl⟩;rw [he]) | (go_at_call 57;refine (qX7 _ _ _ _).mono ?_;rintro e w' ⟨rfl,rfl⟩;rw [hn]))
       go_ret;exact ⟨rfl,rfl⟩
    ·rw [if_neg (fun q=>s0 q.2)];rw [f0] at x2;have sb:(x.s != 0)=true:=by simpa using s0
     clear f0 s0;go_enter Tryz.func59,Tryz.ntmps59;go_wp2_with (first | (go_at_call 57;refine (qX7 _ _ _ _).mono ?_;rintro e w' ⟨rfl,rfl⟩;rw [hk]))
     go_ret;exact ⟨rfl,rfl⟩
   ·rw [if_neg (fun q=>f0 q.1)];have fb:(x.f != 0)=true:=by simpa using f0
    clear f0;go_enter Tryz.func59,Tryz.ntmps59;go_wp2_with (first | (go_at_call 57;refine (qX7 _ _ _ _).mono ?_;rintro e w' ⟨rfl,rfl⟩;rw [hk]))
    go_ret;exact ⟨rfl,rfl⟩
  ·have h3':x.k < 3:=by omega
   rw [qFn hk h3'];clear h3;by_cases n0:x.n=0
   ·rw [if_pos n0];rw [n0] at x4;clear n0;have hn:=qNJ;cases he:inR x.e 1 9
    ·go_enter Tryz.func59,Tryz.ntmps59;go_wp2_with (first | (go_at_call 57;refine (qX7 _ _ _ _).mono ?_;rintro e w' ⟨rfl,rfl⟩;rw [hk]) | (go_at_call 89;refine (qS7 _ _).mono ?_;rintro e w' ⟨rfl,rfl⟩;rw [he]))
     go_ret;exact ⟨rfl,rfl⟩
    ·cases hf:inR x.f 1 4
     ·go_enter Tryz.func59,Tryz.ntmps59;go_wp2_with (first | (go_at_call 57;refine (qX7 _ _ _ _).mono ?_;rintro e w' ⟨rfl,rfl⟩;rw [hk]) | (go_at_call 89;refine (qS7 _ _).mono ?_;rintro e w' ⟨rfl,rfl⟩;rw [he]) | (go_at_call 90;refine (qFz _ _).mono ?_;rintro e w' ⟨rfl,rfl⟩;rw [hf]))
      go_ret;exact ⟨rfl,rfl⟩
     ·cases hs:inR x.s 1 255
      all_goals
       go_enter Tryz.func59,Tryz.ntmps59;go_wp2_with (first | (go_at_call 57;refine (qX7 _ _ _ _).mono ?_;rintro e w' ⟨rfl,rfl⟩;rw [hk]) | (go_at_call 89;refine (qS7 _ _).mono ?_;rintro e w' ⟨rfl,rfl⟩;rw [he]) | (go_at_call 90;refine (qFz _ _).mono ?_;rintro e w' ⟨rfl,rfl⟩;rw [hf]) | (go_at_call 57;refine (qX7 _ _ _ _).mono ?_;rintro e w' ⟨rfl,rfl⟩;rw [hs]) | (go_at_call 57;refine (qX7 _ _ _ _).mono ?_;rintro e w' ⟨rfl,rfl⟩;rw [hn]))
       go_ret;exact ⟨rfl,rfl⟩
   ·rw [if_neg n0];have nb:(x.n != 0)=true:=by simpa using n0
    clear n0;go_enter Tryz.func59,Tryz.ntmps59;go_wp2_with (first | (go_at_call 57;refine (qX7 _ _ _ _).mono ?_;rintro e w' ⟨rfl,rfl⟩;rw [hk]))
    go_ret;exact ⟨rfl,rfl⟩

def QB4 (x:StI):Int:=(x.k+3 * x.e+7 * x.f+11 * x.s+13 * x.n) % 251
def qBv (x:StI):List Int:=[x.k,x.e,x.f,x.s,x.n,QB4 x]
theorem QK7 {x:StI} (h:qB5 x=0):(1<=x.k/\x.k<=4)/\(1<=x.e/\x.e<=9)/\(0<=x.f/\x.f<=4)/\(0<=x.s/\x.s<=255)/\(0<=x.n/\x.n<=7):=by
 cases hk:inR x.k 1 4
 ·unfold qB5 at h;rw [if_pos hk] at h;cases h
 ·have hk':=(qE7 _ _ _).1 hk;by_cases h3:3<=x.k
  ·rw [qFm hk h3] at h;split at h
   ·rename_i q;split at h
    ·cases h
    ·rename_i q1;split at h
     ·cases h
     ·rename_i q2;have e1:=(qE7 x.e 1 9).1 (by simpa using q1);have e2:=(qE7 x.n 0 7).1 (by simpa using q2);omega
   ·cases h
  ·rw [qFn hk (by omega)] at h;split at h
   ·rename_i q;split at h
    ·cases h
    ·rename_i q1;split at h
     ·cases h
     ·rename_i q2;split at h
      ·cases h
      ·rename_i q3;have e1:=(qE7 x.e 1 9).1 (by simpa using q1);have e2:=(qE7 x.f 1 4).1 (by simpa using q2);have e3:=(qE7 x.s 1 255).1 (by simpa using q3);omega
   ·cases h
def QQ1 (f:Nat) (x:StI) (c:Int) (zs:List Int) (w:World):Prop:=Calls Tryz.prog f #[.agg #[.int .i64 x.k,.int .i64 x.e,.int .i64 x.f,.int .i64 x.s,.int .i64 x.n]] w fun e w'=>∃ a cap,e = .returned (.agg #[.int .i64 c,.slice a zs.length cap])/\w'.ownsRow w.heap.size 2 1 (.slice a zs.length cap) zs.length (zs.map (Value.int .i64))/\Below w.heap.size w w'
theorem qAh (x:StI) (c:Int) (w:World) (hc:qB5 x=c) (h0:c≠0):QQ1 65 x c [] w:=by
 have HF:Hid (∀ w:World,Calls Tryz.prog 93 #[.agg #[.int .i64 x.k,.int .i64 x.e,.int .i64 x.f,.int .i64 x.s,.int .i64 x.n]] w fun e w'=>e = .returned (.int .i64 c)/\Below w.heap.size w w'):=by rw [<- hc];exact qB7 x
 have hcb:(c != 0)=true:=by simpa using h0
 clear hc h0;unfold QQ1;go_enter Tryz.func65,Tryz.ntmps65;go_wp2_with fail
 refine (HF.out _).mono ?_;rintro e w1 ⟨rfl,hb1⟩;have d0:w1.cell? ⟨w.heap.size+1,0,none⟩=some (.int .i64 0):=(hb1.cell (p:=⟨w.heap.size+1,0,none⟩) (by simp)).trans (by go_cell);have d1:w1.cell? ⟨w.heap.size+1,1,none⟩=some (.slice none 0 0):=(hb1.cell (p:=⟨w.heap.size+1,1,none⟩) (by simp)).trans (by go_cell);have g0:w1.frozen? ⟨w.heap.size+1,0,none⟩=false:=(hb1.frozen (p:=⟨w.heap.size+1,0,none⟩) (by simp)).trans (by simp [go_sem]);have g1:w1.frozen? ⟨w.heap.size+1,1,none⟩=false:=(hb1.frozen (p:=⟨w.heap.size+1,1,none⟩) (by simp)).trans (by simp [go_sem]);have hw:w.heap.size+1 < w1.heap.size:=by have:=hb1.size;simp at this;omega
 have hbx:Below w.heap.size w w1:=qC8 (qC8 hb1);clear hb1;go_wp2;refine bodyPost_ret (v:=.agg #[.int .i64 c,.slice none 0 0]) (by simp [results,Tryz.results65,go_sem,d0,d1,hw]) rfl ⟨none,0,rfl,World.ownsRow_nil _ _ _ _,?_⟩;exact (hbx.setCell (by simp) _).setCell (by simp) _
theorem qCT (x:StI) (w:World) (hc:qB5 x=0):QQ1 65 x 0 (qBv x) w:=by
 have HF:Hid (∀ w:World,Calls Tryz.prog 93 #[.agg #[.int .i64 x.k,.int .i64 x.e,.int .i64 x.f,.int .i64 x.s,.int .i64 x.n]] w fun e w'=>e = .returned (.int .i64 0)/\Below w.heap.size w w'):=by rw [<- hc];exact qB7 x
 obtain ⟨⟨k0,k1⟩,⟨e0,e1⟩,⟨f0,f1⟩,⟨s0,s1⟩,n0,n1⟩:=QK7 hc
 have HL:Hid (Int.tmod (x.k+3 * x.e+7 * x.f+11 * x.s+13 * x.n) 251=QB4 x):=by
  show Int.tmod _ _=_
  unfold QB4;exact Int.tmod_eq_emod_of_nonneg (by omega)
 clear hc;unfold QQ1;go_enter Tryz.func65,Tryz.ntmps65;go_wp2_with fail
 refine (HF.out _).mono ?_;rintro e w1 ⟨rfl,hb1⟩;have X1:qL3 w1 w.heap.size 0 x:=((qL3.new w x 85).below (zN) (by simp)).below hb1 (by simp;omega);obtain ⟨x0,x1,x2,x3,x4⟩:=X1;simp only [Nat.zero_add] at x0 x1 x2 x3 x4;have d0:w1.cell? ⟨w.heap.size+1,0,none⟩=some (.int .i64 0):=(hb1.cell (p:=⟨w.heap.size+1,0,none⟩) (by simp)).trans (by go_cell);have d1:w1.cell? ⟨w.heap.size+1,1,none⟩=some (.slice none 0 0):=(hb1.cell (p:=⟨w.heap.size+1,1,none⟩) (by simp)).trans (by go_cell);have g0:w1.frozen? ⟨w.heap.size+1,0,none⟩=false:=(hb1.frozen (p:=⟨w.heap.size+1,0,none⟩) (by simp)).trans (by simp [go_sem]);have g1:w1.frozen? ⟨w.heap.size+1,1,none⟩=false:=(hb1.frozen (p:=⟨w.heap.size+1,1,none⟩) (by simp)).trans (by simp [go_sem]);have hw:w.heap.size+1 < w1.heap.size:=by have:=hb1.size;simp at this;omega
 have hbx:Below w.heap.size w w1:=qC8 (qC8 hb1);clear hb1;go_wp2_with fail
 refine bodyPost_ret (v:=.agg #[.int .i64 0,.slice (some ⟨w1.heap.size,0,none⟩) 6 6]) (by simp [results,Tryz.results65,go_sem,d0,d1,hw]) rfl ⟨some ⟨w1.heap.size,0,none⟩,6,rfl,?_,?_⟩
 ·have h6:=World.ownsRow_lit (base:=w.heap.size) (e:=2) (size:=1) ((w1.setCell ⟨w.heap.size+1,0,none⟩ (.int .i64 0)).setCell ⟨w.heap.size+1,1,none⟩ (.slice (some ⟨w1.heap.size,0,none⟩) 6 6)) #[.int .i64 x.k,.int .i64 x.e,.int .i64 x.f,.int .i64 x.s,.int .i64 x.n,.int .i64 (QB4 x)] 6 (by simp;omega) (by unfold maxLen;omega) rfl;rw [World.size_setCell,World.size_setCell] at h6;exact h6
 ·exact ((hbx.setCell (by simp) _).setCell (by simp) _).alloc (by simp;omega) _
theorem qIs (b o:Nat) (x:StI) (w:World) (h:qL3 w b o x) (hc:qB5 x=0):Calls Tryz.prog 60 #[.pointer (some ⟨b,o,none⟩)] w fun e w'=>e = .returned (.slice (some ⟨w.heap.size,0,none⟩) 6 6)/\w'.ownsRow w.heap.size 2 1 (.slice (some ⟨w.heap.size,0,none⟩) 6 6) 6 ((qBv x).map (Value.int .i64))/\Below w.heap.size w w':=by
 obtain ⟨⟨k0,k1⟩,⟨e0,e1⟩,⟨f0,f1⟩,⟨s0,s1⟩,n0,n1⟩:=QK7 hc;obtain ⟨x0,x1,x2,x3,x4⟩:=h;clear hc;go_enter Tryz.func60,Tryz.ntmps60;go_wp2_with fail
 go_quiet (fail)
 go_wp2_with fail
 have hb:b < w.heap.size:=zL w ⟨b,o,none⟩ x0;refine wp_region_held_drew (S:=fun w'=>w'.cell? ⟨b,o,none⟩=some (.int .i64 x.k)/\w'.cell? ⟨b,o+1,none⟩=some (.int .i64 x.e)/\w'.cell? ⟨b,o+2,none⟩=some (.int .i64 x.f)/\w'.cell? ⟨b,o+3,none⟩=some (.int .i64 x.s)/\w'.cell? ⟨b,o+4,none⟩=some (.int .i64 x.n)) (by kernel_rfl) (⟨x0,x1,x2,x3,x4⟩) (fun hHeld=>?_);refine Zk.go [0,1,2,3,4,5,6,7,8,9,10,11,12,13,14,15,16,17,18,19,20] ?_
 iterate 21
  refine Zk.st (v:=?_) rfl ?_ ?_;rotate_left 1
  ·intro w hSw;(try dsimp only at hSw);go_simp;try (with_reducible rfl)
  try simp only [Act.put,zA,zB,zC,zD,zE,zF]
 refine Zk.fin ?_;refine Zk.rd (i:=21) rfl (fun K hK=>?_);go_simp;have hS:(fun w'=>w'.cell? ⟨b,o,none⟩=some (.int .i64 x.k)/\w'.cell? ⟨b,o+1,none⟩=some (.int .i64 x.e)/\w'.cell? ⟨b,o+2,none⟩=some (.int .i64 x.f)/\w'.cell? ⟨b,o+3,none⟩=some (.int .i64 x.s)/\w'.cell? ⟨b,o+4,none⟩=some (.int .i64 x.n)) (((w.drewN (nq+1)).alloc (.cells #[.int .i64 x.k,.int .i64 x.e,.int .i64 x.f,.int .i64 x.s,.int .i64 x.n,.int .i64 ((x.k+3 * x.e+7 * x.f+11 * x.s+13 * x.n) % 251)] 2))):=⟨(World.cell?_alloc_lt _ _ ⟨b,o,none⟩ hb).trans x0,(World.cell?_alloc_lt _ _ ⟨b,o+1,none⟩ hb).trans x1,(World.cell?_alloc_lt _ _ ⟨b,o+2,none⟩ hb).trans x2,(World.cell?_alloc_lt _ _ ⟨b,o+3,none⟩ hb).trans x3,(World.cell?_alloc_lt _ _ ⟨b,o+4,none⟩ hb).trans x4⟩;refine hK.out _ _ hS (fun hHeld=>?_);clear hK K;try simp only [Act.put,zA,zB,zC,zD,zE,zF]
 refine Zk.rd (i:=22) rfl (fun K hK=>?_);go_simp;refine hK.out _ _ (by assumption) (fun hHeld=>?_);clear hK K;try simp only [Act.put,zA,zB,zC,zD,zE,zF]
 refine wpAnyH_done (by kernel_rfl) ?_ _;go_wp2_with fail
 go_ret;refine ⟨rfl,?_,(below_drewN (Below.refl _ _) _).alloc (by simp) _⟩;exact World.ownsRow_lit (base:=w.heap.size) (e:=2) (size:=1) (w.drewN (nq+1)) #[.int .i64 x.k,.int .i64 x.e,.int .i64 x.f,.int .i64 x.s,.int .i64 x.n,.int .i64 (QB4 x)] 6 (Nat.le_refl _) (by unfold maxLen;omega) rfl

def QU8 (e:Ending):Prop:=∃ (u:TypeId) (pv:Value),e = .panicked [{ v:=.iface u pv,recovered:=false }]
theorem qBG (w:World):Calls Tryz.prog 160 #[.bool true] w fun e w'=>e = .returned (.tuple #[])/\w=w':=by
 go_enter Tryz.func160,Tryz.ntmps160;go_wp2;first | go_end0 | go_returns
 exact ⟨rfl,rfl⟩
theorem QU2 (w:World) (h:qG2 0 w):Calls Tryz.prog 160 #[.bool false] w fun e w'=>QU8 e/\w=w':=by
 obtain ⟨a,ha⟩:=h;go_enter Tryz.func160,Tryz.ntmps160;go_wp2;exact ⟨rfl,⟨_,_,rfl⟩,rfl⟩
def qCx (w:World) (b:Nat) (c:Int) (x:StI):Prop:=(w.cell? ⟨b,0,none⟩=some (.int .i64 c)/\w.cell? ⟨b,1,none⟩=some (.int .i64 x.k)/\w.cell? ⟨b,2,none⟩=some (.int .i64 x.e)/\w.cell? ⟨b,3,none⟩=some (.int .i64 x.f)/\w.cell? ⟨b,4,none⟩=some (.int .i64 x.s)/\w.cell? ⟨b,5,none⟩=some (.int .i64 x.n))/\∀ j,w.frozen? ⟨b,j,none⟩=false
theorem qCx.below {w w':World} {b:Nat} {c:Int} {x:StI} (h:qCx w b c x) (hb:Below w.heap.size w w'):qCx w' b c x:=by
 have hl:=zL w ⟨b,0,none⟩ h.1.1;obtain ⟨⟨h0,h1,h2,h3,h4,h5⟩,hf⟩:=h;exact ⟨⟨(hb.cell (p:=⟨b,0,none⟩) hl).trans h0,(hb.cell (p:=⟨b,1,none⟩) hl).trans h1,(hb.cell (p:=⟨b,2,none⟩) hl).trans h2,(hb.cell (p:=⟨b,3,none⟩) hl).trans h3,(hb.cell (p:=⟨b,4,none⟩) hl).trans h4,(hb.cell (p:=⟨b,5,none⟩) hl).trans h5⟩,fun j=>(hb.frozen (p:=⟨b,j,none⟩) hl).trans (hf j)⟩
def qX5:StI:=⟨0,0,0,0,0⟩
theorem qCx.new (w:World) (t:TypeId):qCx (w.alloc (.cells #[.int .i64 0,.int .i64 0,.int .i64 0,.int .i64 0,.int .i64 0,.int .i64 0] t)) w.heap.size 0 qX5 :=
 ⟨⟨by simp [qX5],by simp [qX5],by simp [qX5],by simp [qX5],by simp [qX5],by simp [qX5]⟩,fun j=>by simp [go_sem]⟩
abbrev qJU (w:World) (b:Nat) (c:Int) (x:StI):World:=(((((w.setCell ⟨b,0,none⟩ (.int .i64 c)).setCell ⟨b,1,none⟩ (.int .i64 x.k)).setCell ⟨b,2,none⟩ (.int .i64 x.e)).setCell ⟨b,3,none⟩ (.int .i64 x.f)).setCell ⟨b,4,none⟩ (.int .i64 x.s)).setCell ⟨b,5,none⟩ (.int .i64 x.n)
theorem qCy {w:World} {b:Nat} {c c':Int} {x x':StI} (h:qCx w b c x):qCx (qJU w b c' x') b c' x':=by
 obtain ⟨⟨h0,h1,h2,h3,h4,h5⟩,hf⟩:=h;refine ⟨⟨?_,?_,?_,?_,?_,?_⟩,fun j=>by simp [hf]⟩ <;> simp [go_sem,h0,h1,h2,h3,h4,h5]
theorem QG2 {w0 w:World} {B b:Nat} (h:Below B w0 w) (hB:B<=b) (c:Int) (x:StI):Below B w0 (qJU w b c x) :=
 h.setCell hB _ |>.setCell hB _ |>.setCell hB _ |>.setCell hB _ |>.setCell hB _ |>.setCell hB _
theorem QP2 (b:Nat) (c:Int) (x:StI) (u:TypeId) (pv:Value) (older:List PanicEntry) (w:World) (h:qCx w b c x) :
  CallsD Tryz.prog 159 #[.pointer (some ⟨b,0,none⟩)] (.panicking ({ v:=.iface u pv,recovered:=false }::older)) w fun e u' w' =>
   e = .returned (.tuple #[])/\u' = .panicking ({ v:=.iface u pv,recovered:=true }::older)/\w'=qJU w b 5 qX5:=by
 obtain ⟨⟨h0,h1,h2,h3,h4,h5⟩,hf⟩:=h;have f0:=hf 0;have f1:=hf 1;have f2:=hf 2;have f3:=hf 3;have f4:=hf 4;have f5:=hf 5;clear hf;refine callsD_of_wpS Tryz.func159 rfl fun c₀ cs hu=>?_
 apply wpS_seq;apply wpS_region;simp [wpOpsS,go_sem,recoverD,hu,Tryz.ntmps159,Exit.thenS];refine wpS_cond (t:=true) (by simp [Act.eval,Array.replicate]) ?_;simp only [if_true];apply wpS_region;simp [wpOpsS,go_sem,h0,h1,h2,h3,h4,h5,f0,f1,f2,f3,f4,f5,bodyPostS,results,Tryz.results159,qX5]
theorem qFS (p:Addr) (w:World) :
  CallsD Tryz.prog 159 #[.pointer (some p)] .returning w fun e u' w'=>e = .returned (.tuple #[])/\u' = .returning/\w'=w:=by
 refine callsD_of_wpS Tryz.func159 rfl fun c₀ cs hu=>?_
 apply wpS_seq;apply wpS_region;simp [wpOpsS,go_sem,recoverD,hu,Tryz.ntmps159,Exit.thenS];refine wpS_cond (t:=false) (by simp [Act.eval,Array.replicate]) ?_;simp only [Bool.false_eq_true,if_false];refine wpS_of_wp (wp_skip ?_);cases c₀;simp_all [bodyPostS,results,Tryz.results159]
theorem QV9 (C:Nat) (cap:Array Value) (x:StI) (w:World) (hcf:∀ w:World,(callFunc C cap).run Tryz.prog w = .ok (.enter C cap) w) (HC:Hid (∀ w2:World,Below w.heap.size w w2->Calls Tryz.prog C cap w2 fun e w'=>e = .returned (.agg #[.int .i64 x.k,.int .i64 x.e,.int .i64 x.f,.int .i64 x.s,.int .i64 x.n])/\Below w2.heap.size w2 w')) :
  Calls Tryz.prog 131 #[.func (.func C) #[] cap] w fun e w'=>e = .returned (.agg #[.int .i64 0,.int .i64 x.k,.int .i64 x.e,.int .i64 x.f,.int .i64 x.s,.int .i64 x.n])/\Below w.heap.size w w':=by
 have hmf:∀ (fn:Fn) (first cap:Array Value) (w:World),(Instr.makeFunc fn first cap).run Tryz.prog w = .ok (.func fn first cap) w:=fun _ _ _ _=>rfl
 go_enter_defers Tryz.func131,Tryz.ntmps131
 go_wp2_with fail
 refine (HC.out _ (zN)).mono ?_;rintro e w1 ⟨rfl,hb1⟩;have S1:=(qCx.new w 169).below hb1;have B1:Below w.heap.size w w1:=qC8 hb1;have R1:Hid (qCx (qJU w1 w.heap.size 0 x) w.heap.size 0 x):=qCy S1;have B2:Hid (Below w.heap.size w (qJU w1 w.heap.size 0 x)):=QG2 B1 (Nat.le_refl _) 0 x;obtain ⟨⟨d0,d1,d2,d3,d4,d5⟩,hf⟩:=S1;have f0:=hf 0;have f1:=hf 1;have f2:=hf 2;have f3:=hf 3;have f4:=hf 4;have f5:=hf 5;have hw:w.heap.size < w1.heap.size:=by have:=hb1.size;simp at this;omega
 clear hf hb1 B1;go_wp2_with fail
 refine leaves_cons (f:=159) (args:=#[.pointer (some ⟨w.heap.size,0,none⟩)]) (by simp) (by simp [go_sem]) ?_;refine (qFS ⟨w.heap.size,0,none⟩ _).mono ?_;rintro e u' w'' ⟨rfl,rfl,rfl⟩;obtain ⟨⟨c0,c1,c2,c3,c4,c5⟩,_⟩:=R1.out;refine ⟨_,by simp [results,Tryz.results131,go_sem,c0,c1,c2,c3,c4,c5],rfl,B2.out⟩
theorem QQ6 (C:Nat) (cap:Array Value) (w:World) (hcf:∀ w:World,(callFunc C cap).run Tryz.prog w = .ok (.enter C cap) w) (HC:Hid (∀ w2:World,Below w.heap.size w w2->Calls Tryz.prog C cap w2 fun e w'=>QU8 e/\Below w2.heap.size w2 w')) :
  Calls Tryz.prog 131 #[.func (.func C) #[] cap] w fun e w'=>e = .returned (.agg #[.int .i64 5,.int .i64 0,.int .i64 0,.int .i64 0,.int .i64 0,.int .i64 0])/\Below w.heap.size w w':=by
 have hmf:∀ (fn:Fn) (first cap:Array Value) (w:World),(Instr.makeFunc fn first cap).run Tryz.prog w = .ok (.func fn first cap) w:=fun _ _ _ _=>rfl
 go_enter_defers Tryz.func131,Tryz.ntmps131
 go_wp2_with fail
 refine (HC.out _ (zN)).mono ?_;rintro e w1 ⟨⟨u,pv,rfl⟩,hb1⟩;have S1:=(qCx.new w 169).below hb1;have B1:Below w.heap.size w w1:=qC8 hb1;have R1:Hid (qCx (qJU w1 w.heap.size 5 qX5) w.heap.size 5 qX5):=qCy S1;have B2:Hid (Below w.heap.size w (qJU w1 w.heap.size 5 qX5)):=QG2 B1 (Nat.le_refl _) 5 qX5;go_wp2_with fail
 refine leaves_cons (f:=159) (args:=#[.pointer (some ⟨w.heap.size,0,none⟩)]) (by simp) (by simp [go_sem]) ?_;refine (QP2 w.heap.size 0 qX5 u pv [] _ S1).mono ?_;rintro e u' w'' ⟨rfl,rfl,rfl⟩;obtain ⟨⟨c0,c1,c2,c3,c4,c5⟩,_⟩:=R1.out;exact ⟨.agg #[.int .i64 5,.int .i64 qX5.k,.int .i64 qX5.e,.int .i64 qX5.f,.int .i64 qX5.s,.int .i64 qX5.n],by simp [results,Tryz.results131,go_sem,c0,c1,c2,c3,c4,c5],rfl,B2.out⟩

theorem qBd (a b:Option Addr) (n m ca cb:Nat) (xs ys:List Int) (w:World) (hn:n<=1048576) (hm:m<=1048576) (h:qC9 w a n xs) (h':qC9 w b m ys) :
  Calls Tryz.prog 161 #[.slice a n ca,.slice b m cb] w fun e w'=>e = .returned (.bool (decide (xs=ys)))/\Below w.heap.size w w':=by
 have H:Hid (qC9 w a n xs):=h;have H':Hid (qC9 w b m ys):=h';have HX:Hid (xs.length=n):=h.1;have HY:Hid (ys.length=m):=h'.1;clear h h';have hn':(n:Int)<=1048576:=by omega
 have hm':(m:Int)<=1048576:=by omega
 by_cases hnm:n=m
 ·subst hnm;obtain ⟨t,ht⟩:∃ t,decide (xs=ys)=t:=⟨_,rfl⟩;have HT:Hid (decide (xs=ys)=t):=ht;rw [ht];clear ht;go_enter Tryz.func161,Tryz.ntmps161;go_wp2;go_loopw [13] (fun i wr=>∃ k:Nat,k<=n/\i = .int .i64 (k:Int)/\xs.take k=ys.take k/\∃ q,wr=w.drewN q) (fun i _=>n - (intOf i).toNat)
  case atStart=>exact ⟨0,Nat.zero_le _,rfl,by simp,0,rfl⟩
  case round =>
   obtain ⟨k,hk,rfl,htk,q,rfl⟩:=hrel;have HTK:Hid (xs.take k=ys.take k):=htk;clear htk;by_cases hlt:k < n
   ·obtain ⟨b1,o1,s,e1,hs,h0,hb1⟩:=H.out.at hlt
    obtain ⟨b2,o2,s2,e2,hs2,g0,hb2⟩:=H'.out.at hlt
    subst e1 e2;have HS:Hid (xs[k]? = some s):=hs;have HS2:Hid (ys[k]? = some s2):=hs2;clear hs hs2;have hlt':(k:Int) < (n:Int):=by omega
    by_cases hsame:s=s2
    ·have HN:Hid (xs.take (k+1)=ys.take (k+1)):=by
      show xs.take (k+1)=ys.take (k+1)
      rw [List.take_add_one,List.take_add_one,HTK.out,HS.out,HS2.out,hsame]
     have hd:decide (s=s2)=true:=decide_eq_true hsame;have hdb:(s != s2) = !decide (s=s2):=by cases q:decide (s=s2) <;> simp_all
     clear hsame;go_wp2;go_quiet (fail)
     go_wp2;exact ⟨⟨k+1,by omega,by go_num,HN.out,_,rfl⟩,by simp [intOf];omega⟩
    ·have HE:Hid (t=false):=by
      show t=false
      rw [<- HT.out];refine decide_eq_false (fun e=>hsame ?_);have h1:=HS.out;rw [e,HS2.out] at h1;exact (Option.some.inj h1).symm
     have hd:decide (s=s2)=false:=decide_eq_false hsame;have hdb:(s != s2) = !decide (s=s2):=by cases q:decide (s=s2) <;> simp_all
     clear hsame;go_wp2;go_quiet (fail)
     go_wp2;go_ret;exact ⟨by rw [HE.out];rfl,below_drewN (below_drewN (Below.refl _ _) _) _⟩
   ·have hkn:k=n:=by omega
    subst hkn
    have HE:Hid (t=true):=by
     show t=true
     rw [<- HT.out];refine decide_eq_true ?_;have:=HTK.out;rw [List.take_of_length_le (by rw [HX.out];exact Nat.le_refl _),List.take_of_length_le (by rw [HY.out];exact Nat.le_refl _)] at this;exact this
    go_wp2;go_ret;exact ⟨by rw [HE.out];rfl,below_drewN (Below.refl _ _) _⟩
 ·have HE:Hid (decide (xs=ys)=false):=decide_eq_false (fun e=>hnm (by rw [<- HX.out,<- HY.out,e]));rw [HE.out];have hnb:((n:Int) != (m:Int))=true:=by simp;omega
  have hnm':¬ ((n:Int)=(m:Int)):=by omega
  go_enter Tryz.func161,Tryz.ntmps161;go_wp2;go_ret;exact ⟨rfl,Below.refl _ _⟩
