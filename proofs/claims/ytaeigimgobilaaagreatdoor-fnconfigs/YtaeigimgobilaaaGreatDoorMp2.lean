/-
  CONTRACT: (impl.grantMap).give: a set given to a role in the map.
  Conditions: each contract bears its own.
-/
import Derived.Test.YtaeigimgobilaaaGreatDoorMp1
import Derived.WalkSmall
import Derived.BigRegion
import Derived.BigQuiet
import Derived.Deep.QuietTactic
namespace Go.Proofs.YtaeigimgobilaaaGreatDoor
open Go.RowKit Go.Maps
open Go.ChangeMaps (setBlock heap_setBlock_same heap_setBlock_other)
set_option linter.unusedVariables false
set_option linter.unusedSimpArgs false

theorem heap_alloc_old (w : World) (o : Obj) {i : Nat} (h : i < w.heap.size) : (w.alloc o).heap[i]? = w.heap[i]? := (MapKept.heap_alloc w o).2 i h

theorem grown_mp {w : World} {b : Nat} {es es' : Array MapEntry} {c c' : Nat} (hb : w.heap[b]? = some (.map es c)) : w.grownBy (setBlock w b (.map es' c')) (some b) :=
  ⟨rfl, rfl, rfl, by simp [setBlock], fun i _ hi => heap_setBlock_other hb _ (fun e => hi (by rw [e]))⟩

theorem grown_dr (w : World) : w.grownBy w.drew none := ⟨rfl, rfl, rfl, Nat.le_refl _, fun _ _ _ => rfl⟩

theorem grown_two {a b c : World} {j : Nat} (h : a.grownBy b (some j)) (k : b.grownBy c (some j)) : a.grownBy c (some j) := h.andThen k (fun _ e => .inr e)

set_option maxRecDepth 100000 in
set_option maxHeartbeats 1000000 in
theorem give_c (b : Nat) (f : RoI → Int) (r : RoI) (s : Int) (w : World) (h : GM w b f) (hr : roleB r.1 r.2 = true) (hs : setB s) :
    Calls Tryz.prog 93 #[.map (some b), .agg #[.int .i64 r.1, .int .i64 r.2], .int .u8 s] w fun e w' => e = .returned (.bool (!decide (orI (f r) s = f r))) ∧ GM w' b (giveF f r s) ∧ w.grownBy w' (some b) := by
  obtain ⟨es, es1, clock, clock1, st, hb, E⟩ := entry_is h hr
  have hlt := h.lt
  have hfn := h.fn
  have hn := u8_not s (f r) hs (hfn.st r)
  have hba : (w.alloc (.cells #[.int .i64 r.1, .int .i64 r.2] 66)).heap[b]? = some (.map es clock) := (heap_alloc_old w _ hlt).trans hb
  have hl0 := E.look0 _ hba
  by_cases hsame : orI (f r) s = f r
  · have hz := hn.2.2.2 hsame
    go_enter Tryz.func93, Tryz.ntmps93
    go_wp2
    go_ret
    rw [decide_eq_true hsame, give_same hsame]
    exact ⟨rfl, gm_heap h (heap_alloc_old w _ hlt), (World.grownBy_alloc w _ none).but _⟩
  · obtain ⟨g, hg⟩ : ∃ g, bits .andNot .u8 s (f r) = g := ⟨_, rfl⟩
    have hg0 : g ≠ 0 := fun e => hsame (hn.2.2.1 (hg.trans e))
    clear hn
    go_enter Tryz.func93, Tryz.ntmps93
    go_wp2
    have c0 : (w.alloc (.cells #[.int .i64 r.1, .int .i64 r.2] 66)).cell? ⟨w.heap.size, 0, none⟩ = some (.int .i64 r.1) := by unfold World.cell?; rw [(MapKept.heap_alloc w _).1]; rfl
    have c1 : (w.alloc (.cells #[.int .i64 r.1, .int .i64 r.2] 66)).cell? ⟨w.heap.size, 1, none⟩ = some (.int .i64 r.2) := by unfold World.cell?; rw [(MapKept.heap_alloc w _).1]; rfl
    have hgr : w.grownBy (w.alloc (.cells #[.int .i64 r.1, .int .i64 r.2] 66)) none := World.grownBy_alloc w _ none
    generalize w.alloc (.cells #[.int .i64 r.1, .int .i64 r.2] 66) = w1 at *
    have hso : setB (orI (f r) s) := or_set (hfn.st r) hs
    have hor : bits .or .u8 (f r) s = orI (f r) s := u8_or _ _ (hfn.st r) hs
    have hs0 : orI (f r) s ≠ 0 := fun e => hsame (by have := or_le (hfn.st r) hs; have := (hfn.st r).1; omega)
    have a1 := E.ask w1.drew hba
    have l0 := E.look0 w1.drew hba
    have hb2 : (setBlock w1.drew b (.map es1 clock1)).heap[b]? = some (.map es1 clock1) := heap_setBlock_same (w := w1.drew) hba _
    have l1 := E.look1 _ hb2
    obtain ⟨es2, clock2, w2, hgm⟩ := E.write _ _ hb2 hso hs0
    have k3 : w1.drew.grownBy (setBlock w1.drew b (.map es1 clock1)) (some b) := grown_mp (w := w1.drew) hba
    generalize setBlock w1.drew b (.map es1 clock1) = w3 at *
    have k4 : w3.grownBy (setBlock w3 b (.map es2 clock2)) (some b) := grown_mp hb2
    generalize setBlock w3 b (.map es2 clock2) = w4 at *
    have k5 : w.grownBy w4 (some b) := grown_two (grown_two (grown_two (hgr.but _) ((grown_dr w1).but _)) k3) k4
    clear hgr k3 k4
    have w2' : (Instr.entryStore 100 (.map (some b)) (.int .i64 (st : Int)) (.int .u8 (orI (f r) s))).run Tryz.prog w3 = .ok () w4 := w2
    clear E w2
    go_region
    go_wp2
    go_ret
    rw [decide_eq_false hsame]
    exact ⟨rfl, hgm, k5⟩

end Go.Proofs.YtaeigimgobilaaaGreatDoor
