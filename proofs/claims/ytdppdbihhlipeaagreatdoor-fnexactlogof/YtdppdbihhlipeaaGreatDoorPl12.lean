/- Contracts. -/
import Derived.Test.YtdppdbihhlipeaaGreatDoorPl11
namespace Go.Proofs.YtdppdbihhlipeaaGreatDoor
set_option maxRecDepth 100000
set_option maxHeartbeats 8000000
open Go.RowKit
set_option linter.unusedVariables false
set_option linter.unusedSimpArgs false

def lastW (x:StI):Int:=(x.k+3 * x.e+7 * x.f+11 * x.s+13 * x.n) % 251
def QE2 (x:StI):List Int:=[x.k,x.e,x.f,x.s,x.n,lastW x]
theorem QK2 {x:StI} (h:qB8 x=0):(1≤x.k∧x.k≤4)∧(1≤x.e∧x.e≤9)∧(0≤x.f∧x.f≤4)∧(0≤x.s∧x.s≤255)∧(0≤x.n∧x.n≤7):=by
 cases hk:inR x.k 1 4
 ·unfold qB8 at h;rw [if_pos hk] at h;cases h
 ·have hk':=(qE4 _ _ _).1 hk
  by_cases h3:3≤x.k
  ·rw [st_next hk h3] at h
   split at h
   ·rename_i q
    split at h
    ·cases h
    ·rename_i q1
     split at h
     ·cases h
     ·rename_i q2
      have e1:=(qE4 x.e 1 9).1 (by simpa using q1)
      have e2:=(qE4 x.n 0 7).1 (by simpa using q2)
      omega
   ·cases h
  ·rw [st_form hk (by omega)] at h
   split at h
   ·rename_i q
    split at h
    ·cases h
    ·rename_i q1
     split at h
     ·cases h
     ·rename_i q2
      split at h
      ·cases h
      ·rename_i q3
       have e1:=(qE4 x.e 1 9).1 (by simpa using q1)
       have e2:=(qE4 x.f 1 4).1 (by simpa using q2)
       have e3:=(qE4 x.s 1 255).1 (by simpa using q3)
       omega
   ·cases h
def QG8 (f:Nat) (x:StI) (c:Int) (zs:List Int) (w:World):Prop:=Calls Tryz.prog f #[.agg #[.int .i64 x.k,.int .i64 x.e,.int .i64 x.f,.int .i64 x.s,.int .i64 x.n]] w fun e w'=>∃ a cap,e = .returned (.agg #[.int .i64 c,.slice a zs.length cap])∧w'.ownsRow w.heap.size 2 1 (.slice a zs.length cap) zs.length (zs.map (Value.int .i64))∧Below w.heap.size w w'
theorem owns_low {w:World} {B B':Nat} {t:TypeId} {v:Value} {n:Nat} {xs:List Value} (h:w.ownsRow B t 1 v n xs) (hb:B'≤B):w.ownsRow B' t 1 v n xs:=by
 refine ⟨h.1,?_⟩
 rcases h.2 with h' | ⟨g,cap,cur,e,hg,rest⟩
 ·exact .inl h'
 ·exact .inr ⟨g,cap,cur,e,Nat.le_trans hb hg,rest⟩
theorem implPack_bad (x:StI) (c:Int) (w:World) (hc:qB8 x=c) (h0:c≠0):QG8 65 x c [] w:=by
 have HF:Hid (∀ w:World,Calls Tryz.prog 93 #[.agg #[.int .i64 x.k,.int .i64 x.e,.int .i64 x.f,.int .i64 x.s,.int .i64 x.n]] w fun e w'=>e = .returned (.int .i64 c)∧Below w.heap.size w w'):=by rw [← hc];exact qB4 x
 have hcb:(c != 0)=true:=by simpa using h0
 clear hc h0
 unfold QG8
 go_enter Tryz.func65,Tryz.ntmps65
 go_wp2_with fail
 refine (HF.out _).mono ?_
 rintro e w1 ⟨rfl,hb1⟩
 have d0:w1.cell? ⟨w.heap.size+1,0,none⟩=some (.int .i64 0):=(hb1.cell (p:=⟨w.heap.size+1,0,none⟩) (by simp)).trans (by go_cell)
 have d1:w1.cell? ⟨w.heap.size+1,1,none⟩=some (.slice none 0 0):=(hb1.cell (p:=⟨w.heap.size+1,1,none⟩) (by simp)).trans (by go_cell)
 have g0:w1.frozen? ⟨w.heap.size+1,0,none⟩=false:=(hb1.frozen (p:=⟨w.heap.size+1,0,none⟩) (by simp)).trans (by simp [go_sem])
 have g1:w1.frozen? ⟨w.heap.size+1,1,none⟩=false:=(hb1.frozen (p:=⟨w.heap.size+1,1,none⟩) (by simp)).trans (by simp [go_sem])
 have hw:w.heap.size+1 < w1.heap.size:=by have:=hb1.size;simp at this;omega
 have hbx:Below w.heap.size w w1:=qC1 (qC1 hb1)
 clear hb1
 go_wp2
 refine bodyPost_ret (v:=.agg #[.int .i64 c,.slice none 0 0]) (by simp [results,Tryz.results65,go_sem,d0,d1,hw]) rfl ⟨none,0,rfl,World.ownsRow_nil _ _ _ _,?_⟩
 exact (hbx.setCell (by simp) _).setCell (by simp) _
theorem implPack_ok (x:StI) (w:World) (hc:qB8 x=0):QG8 65 x 0 (QE2 x) w:=by
 have HF:Hid (∀ w:World,Calls Tryz.prog 93 #[.agg #[.int .i64 x.k,.int .i64 x.e,.int .i64 x.f,.int .i64 x.s,.int .i64 x.n]] w fun e w'=>e = .returned (.int .i64 0)∧Below w.heap.size w w'):=by rw [← hc];exact qB4 x
 obtain ⟨⟨k0,k1⟩,⟨e0,e1⟩,⟨f0,f1⟩,⟨s0,s1⟩,n0,n1⟩:=QK2 hc
 have HL:Hid (Int.tmod (x.k+3 * x.e+7 * x.f+11 * x.s+13 * x.n) 251=lastW x):=by
  show Int.tmod _ _=_
  unfold lastW
  exact Int.tmod_eq_emod_of_nonneg (by omega)
 clear hc
 unfold QG8
 go_enter Tryz.func65,Tryz.ntmps65
 go_wp2_with fail
 refine (HF.out _).mono ?_
 rintro e w1 ⟨rfl,hb1⟩
 have X1:qQ3 w1 w.heap.size 0 x:=((qQ3.new w x 85).below (zN) (by simp)).below hb1 (by simp;omega)
 obtain ⟨x0,x1,x2,x3,x4⟩:=X1
 simp only [Nat.zero_add] at x0 x1 x2 x3 x4
 have d0:w1.cell? ⟨w.heap.size+1,0,none⟩=some (.int .i64 0):=(hb1.cell (p:=⟨w.heap.size+1,0,none⟩) (by simp)).trans (by go_cell)
 have d1:w1.cell? ⟨w.heap.size+1,1,none⟩=some (.slice none 0 0):=(hb1.cell (p:=⟨w.heap.size+1,1,none⟩) (by simp)).trans (by go_cell)
 have g0:w1.frozen? ⟨w.heap.size+1,0,none⟩=false:=(hb1.frozen (p:=⟨w.heap.size+1,0,none⟩) (by simp)).trans (by simp [go_sem])
 have g1:w1.frozen? ⟨w.heap.size+1,1,none⟩=false:=(hb1.frozen (p:=⟨w.heap.size+1,1,none⟩) (by simp)).trans (by simp [go_sem])
 have hw:w.heap.size+1 < w1.heap.size:=by have:=hb1.size;simp at this;omega
 have hbx:Below w.heap.size w w1:=qC1 (qC1 hb1)
 clear hb1
 go_wp2_with fail
 refine bodyPost_ret (v:=.agg #[.int .i64 0,.slice (some ⟨w1.heap.size,0,none⟩) 6 6]) (by simp [results,Tryz.results65,go_sem,d0,d1,hw]) rfl ⟨some ⟨w1.heap.size,0,none⟩,6,rfl,?_,?_⟩
 ·have h6:=World.ownsRow_lit (base:=w.heap.size) (e:=2) (size:=1) ((w1.setCell ⟨w.heap.size+1,0,none⟩ (.int .i64 0)).setCell ⟨w.heap.size+1,1,none⟩ (.slice (some ⟨w1.heap.size,0,none⟩) 6 6)) #[.int .i64 x.k,.int .i64 x.e,.int .i64 x.f,.int .i64 x.s,.int .i64 x.n,.int .i64 (lastW x)] 6 (by simp;omega) (by unfold maxLen;omega) rfl
  rw [World.size_setCell,World.size_setCell] at h6
  exact h6
 ·exact ((hbx.setCell (by simp) _).setCell (by simp) _).alloc (by simp;omega) _
theorem l7Pack_c (b o:Nat) (x:StI) (w:World) (h:qQ3 w b o x) (hc:qB8 x=0):Calls Tryz.prog 60 #[.pointer (some ⟨b,o,none⟩)] w fun e w'=>e = .returned (.slice (some ⟨w.heap.size,0,none⟩) 6 6)∧w'.ownsRow w.heap.size 2 1 (.slice (some ⟨w.heap.size,0,none⟩) 6 6) 6 ((QE2 x).map (Value.int .i64))∧Below w.heap.size w w':=by
 obtain ⟨⟨k0,k1⟩,⟨e0,e1⟩,⟨f0,f1⟩,⟨s0,s1⟩,n0,n1⟩:=QK2 hc
 obtain ⟨x0,x1,x2,x3,x4⟩:=h
 clear hc
 go_enter Tryz.func60,Tryz.ntmps60
 go_wp2_with fail
 go_quiet (fail)
 go_wp2_with fail
 have hb:b < w.heap.size:=zL w ⟨b,o,none⟩ x0
 refine wp_region_held_drew (S:=fun w'=>w'.cell? ⟨b,o,none⟩=some (.int .i64 x.k)∧w'.cell? ⟨b,o+1,none⟩=some (.int .i64 x.e)∧w'.cell? ⟨b,o+2,none⟩=some (.int .i64 x.f)∧w'.cell? ⟨b,o+3,none⟩=some (.int .i64 x.s)∧w'.cell? ⟨b,o+4,none⟩=some (.int .i64 x.n)) (by kernel_rfl) (⟨x0,x1,x2,x3,x4⟩) (fun hHeld=>?_)
 refine Zk.go [0,1,2,3,4,5,6,7,8,9,10,11,12,13,14,15,16,17,18,19,20] ?_
 iterate 21
  refine Zk.st (v:=?_) rfl ?_ ?_
  rotate_left 1
  ·intro w hSw;(try dsimp only at hSw);go_simp;try (with_reducible rfl)
  try simp only [Act.put,zA,zB,zC,zD,zE,zF]
 refine Zk.fin ?_
 refine Zk.rd (i:=21) rfl (fun K hK=>?_)
 go_simp
 have hS:(fun w'=>w'.cell? ⟨b,o,none⟩=some (.int .i64 x.k)∧w'.cell? ⟨b,o+1,none⟩=some (.int .i64 x.e)∧w'.cell? ⟨b,o+2,none⟩=some (.int .i64 x.f)∧w'.cell? ⟨b,o+3,none⟩=some (.int .i64 x.s)∧w'.cell? ⟨b,o+4,none⟩=some (.int .i64 x.n)) (((w.drewN (nq+1)).alloc (.cells #[.int .i64 x.k,.int .i64 x.e,.int .i64 x.f,.int .i64 x.s,.int .i64 x.n,.int .i64 ((x.k+3 * x.e+7 * x.f+11 * x.s+13 * x.n) % 251)] 2))):=⟨(World.cell?_alloc_lt _ _ ⟨b,o,none⟩ hb).trans x0,(World.cell?_alloc_lt _ _ ⟨b,o+1,none⟩ hb).trans x1,(World.cell?_alloc_lt _ _ ⟨b,o+2,none⟩ hb).trans x2,(World.cell?_alloc_lt _ _ ⟨b,o+3,none⟩ hb).trans x3,(World.cell?_alloc_lt _ _ ⟨b,o+4,none⟩ hb).trans x4⟩
 refine hK.out _ _ hS (fun hHeld=>?_)
 clear hK K
 try simp only [Act.put,zA,zB,zC,zD,zE,zF]
 refine Zk.rd (i:=22) rfl (fun K hK=>?_)
 go_simp
 refine hK.out _ _ (by assumption) (fun hHeld=>?_)
 clear hK K
 try simp only [Act.put,zA,zB,zC,zD,zE,zF]
 refine wpAnyH_done (by kernel_rfl) ?_ _
 go_wp2_with fail
 go_ret
 refine ⟨rfl,?_,(below_drewN (Below.refl _ _) _).alloc (by simp) _⟩
 exact World.ownsRow_lit (base:=w.heap.size) (e:=2) (size:=1) (w.drewN (nq+1)) #[.int .i64 x.k,.int .i64 x.e,.int .i64 x.f,.int .i64 x.s,.int .i64 x.n,.int .i64 (lastW x)] 6 (Nat.le_refl _) (by unfold maxLen;omega) rfl

end Go.Proofs.YtdppdbihhlipeaaGreatDoor
