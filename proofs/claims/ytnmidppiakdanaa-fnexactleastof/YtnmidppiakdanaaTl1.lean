/-
  CONTRACT: impl.together.
  Conditions: each contract bears its own.
-/
import Derived.Test.YtnmidppiakdanaaTl0
import Derived.Test.YtnmidppiakdanaaSpec1
import Derived.Deep.WholeRow
namespace Go.Proofs.Ytnmidppiakdanaa
open Go.RowKit
set_option linter.unusedVariables false
set_option linter.unusedSimpArgs false

theorem ts_under : Try.prog.underlying 119 = some (.array 256 4) := by kernel_rfl
theorem ts_info : (Try.prog.info? 119).map (fun i => (i.zero, i.size)) = some (some (.agg (arrT noT)), 256) := by kernel_rfl
theorem ts_zero (w : World) : (zeroValue 119).run Try.prog w = .ok (.agg (arrT noT)) w := (zero_of_info ts_info).1 w
theorem ts_size : (Try.prog.info? 119).map (·.size) = some 256 := (zero_of_info ts_info).2

theorem cell_old (w : World) (o : Obj) {b : Nat} (i : Nat) (hb : b < w.heap.size) : (w.alloc o).cell? ⟨b, i, none⟩ = w.cell? ⟨b, i, none⟩ := ((Below.refl _ _).alloc (Nat.le_refl _) o).cell (p := ⟨b, i, none⟩) hb
theorem cell_new (w : World) (c : Array Value) (t : TypeId) (i : Nat) : (w.alloc (.cells c t)).cell? ⟨w.heap.size, i, none⟩ = c[i]? := cell_of_row _ _ i c t (0, 0) (heap_alloc_last w _)
theorem heap_old (w : World) (o : Obj) {b : Nat} (hb : b < w.heap.size) : (w.alloc o).heap[b]? = w.heap[b]? := ((Below.refl _ _).alloc (Nat.le_refl _) o).block b hb

theorem heap_setRow {w : World} {g : Nat} {c c' : Array Value} {t : TypeId} {fr : Nat × Nat} (h : w.heap[g]? = some (.cells c t fr)) : (w.setRow g c').heap[g]? = some (.cells c' t fr) := by
  simp only [World.setRow]
  rw [Array.getElem?_modify, if_pos rfl, h]
  rfl
theorem heap_setRow_ne {w : World} {g i : Nat} {c' : Array Value} (h : i ≠ g) : (w.setRow g c').heap[i]? = w.heap[i]? := by
  simp only [World.setRow]
  rw [Array.getElem?_modify, if_neg (fun e => h e.symm)]
theorem size_setRow (w : World) (g : Nat) (c' : Array Value) : (w.setRow g c').heap.size = w.heap.size := by simp [World.setRow]
theorem below_setRow {B : Nat} {w0 w : World} {g : Nat} (h : Below B w0 w) (hg : B ≤ g) (c : Array Value) : Below B w0 (w.setRow g c) :=
  ⟨h.os, h.tape, h.output, by rw [size_setRow]; exact h.size, fun i hi => by rw [heap_setRow_ne (by omega)]; exact h.block i hi⟩
theorem storeAt_row (w : World) (g : Nat) (old T : TS) (hg : w.heap[g]? = some (.cells (arrT old) 119 (0, 0))) :
    (Instr.storeAt 119 (.pointer (some ⟨g, 0, none⟩)) (.agg (arrT T))).run Try.prog w = .ok () (w.setRow g (arrT T)) := by
  simp only [Instr.storeAt, Instr.sureAddr, Sem.run_bind, Sem.run_pure, Result.andThen]
  exact run_storeVar_row _ _ _ _ _ _ hg (by rw [arrT_size]; exact ts_size) (by rw [arrT_size, arrT_size]) (arrT_cells T)
theorem storeCells_row (w : World) (g : Nat) (old T : TS) (hg : w.heap[g]? = some (.cells (arrT old) 119 (0, 0))) :
    (storeCells ⟨g, 0, none⟩ (arrT T).toList).run Try.prog w = .ok () (w.setRow g (arrT T)) := by
  have := run_storeCells_from (P := Try.prog) g 119 (arrT T).toList 0 (arrT old) w hg (by rw [Nat.zero_add, arrT_size, Array.length_toList, arrT_size]) (fun v hv => (Array.all_eq_true_iff_forall_mem.1 (arrT_cells T)) v (by simpa using hv))
  simpa using this
theorem loadVar_row (w : World) (g : Nat) (T : TS) (hg : w.heap[g]? = some (.cells (arrT T) 119 (0, 0))) :
    (loadVar 119 ⟨g, 0, none⟩).run Try.prog w = .ok (.agg (arrT T)) w :=
  run_loadVar_row _ _ _ _ _ _ _ hg ts_under rfl (by rw [arrT_size]; exact ts_size)
theorem loadAt_row (w : World) (g : Nat) (T : TS) (hg : w.heap[g]? = some (.cells (arrT T) 119 (0, 0))) :
    (Instr.loadAt 119 (.pointer (some ⟨g, 0, none⟩))).run Try.prog w = .ok (.agg (arrT T)) w := by
  simp only [Instr.loadAt, Instr.sureAddr, Sem.run_bind, Sem.run_pure, Result.andThen]
  exact loadVar_row w g T hg

set_option maxRecDepth 100000 in
set_option maxHeartbeats 4000000 in
theorem together_c (L R : TS) (ap : Bool) (w : World) :
    Calls Try.prog 133 #[.agg (arrT L), .agg (arrT R), .bool ap] w fun e w' => e = .returned (.agg (arrT (bothT ap L R))) ∧ Below w.heap.size w w' := by
  have hz := ts_zero
  obtain ⟨W, hW⟩ : ∃ W, W = ((w.alloc (.cells (arrT L) 119)).alloc (.cells (arrT R) 119)).alloc (.cells (arrT noT) 119) := ⟨_, rfl⟩
  have hs0 : w.heap.size + 1 + 1 + 1 = W.heap.size := by rw [hW]; simp
  have HSz : Hid (w.heap.size + 1 + 1 + 1 = W.heap.size) := hs0
  clear hs0
  have B0 : Below w.heap.size w W := by rw [hW]; exact (((Below.refl _ _).alloc (Nat.le_refl _) _).alloc (by simp) _).alloc (by simp; omega) _
  have HL : Hid (∀ (o : Obj) (i : Nat), i < 256 → (W.alloc o).cell? ⟨w.heap.size, i, none⟩ = some (.bool (L i))) := fun o i hi => by
    rw [hW, cell_old _ _ _ (by simp; omega), cell_old _ _ _ (by simp; omega), cell_old _ _ _ (by simp), cell_new, arrT_at _ hi]
  have HR : Hid (∀ (o : Obj) (i : Nat), i < 256 → (W.alloc o).cell? ⟨w.heap.size + 1, i, none⟩ = some (.bool (R i))) := fun o i hi => by
    rw [hW, cell_old _ _ _ (by simp), cell_old _ _ _ (by simp)]
    have := cell_new (w.alloc (.cells (arrT L) 119)) (arrT R) 119 i
    rw [World.size_alloc] at this
    rw [this, arrT_at _ hi]
  have HRes : Hid (∀ o : Obj, (W.alloc o).heap[w.heap.size + 1 + 1]? = some (.cells (arrT noT) 119 (0, 0))) := fun o => by
    rw [hW, heap_old _ _ (by simp)]
    have := heap_alloc_last ((w.alloc (.cells (arrT L) 119)).alloc (.cells (arrT R) 119)) (.cells (arrT noT) 119)
    rw [World.size_alloc, World.size_alloc] at this
    exact this
  go_enter Try.func133, Try.ntmps133
  go_wp2_with fail
  rw [← hW]
  clear hW hz
  have hs := HSz.out
  simp only [hs]
  go_loopw [10] (fun i wr => ∃ (k : Nat) (T : TS), k ≤ 256 ∧ i = .int .i64 (k : Int) ∧ wr = W.alloc (.cells (arrT T) 119) ∧ Hid (Both ap L R k 0 T)) (fun i _ => 256 - (intOf i).toNat)
  case atStart => exact ⟨0, noT, by omega, rfl, rfl, both_start ap L R⟩
  case round =>
    obtain ⟨k, T, hk, rfl, rfl, HB⟩ := hrel
    by_cases hlt : k < 256
    · have hlt' : (k : Int) < 256 := by omega
      have cL := HL.out (.cells (arrT T) 119) k hlt
      obtain ⟨l, hl⟩ : ∃ l, L k = l := ⟨_, rfl⟩
      have HLk : Hid (L k = l) := hl
      rw [hl] at cL
      clear hl
      cases l
      · go_wp2_with fail
        exact ⟨⟨k + 1, T, by omega, by go_num, rfl, both_skip HB.out HLk.out⟩, by simp [intOf]; omega⟩
      · go_wp2_with fail
        go_loopw [17] (fun j wr => ∃ (m : Nat) (U : TS), m ≤ 256 ∧ j = .int .i64 (m : Int) ∧ wr = W.alloc (.cells (arrT U) 119) ∧ Hid (Both ap L R k m U)) (fun j _ => 256 - (intOf j).toNat)
        case atStart => exact ⟨0, T, by omega, rfl, rfl, HB⟩
        case round =>
          obtain ⟨m, U, hm, rfl, rfl, HC⟩ := hrel
          by_cases hmt : m < 256
          · have hmt' : (m : Int) < 256 := by omega
            have cR := HR.out (.cells (arrT U) 119) m hmt
            obtain ⟨r, hr⟩ : ∃ r, R m = r := ⟨_, rfl⟩
            have HRm : Hid (R m = r) := hr
            rw [hr] at cR
            have hand : bits .and .i64 (k : Int) (m : Int) = ((k &&& m : Nat) : Int) := and_nat k m hlt hmt
            have hor : bits .or .i64 (k : Int) (m : Int) = ((k ||| m : Nat) : Int) := or_nat k m hlt hmt
            have hx : k ||| m < 256 := Nat.or_lt_two_pow (n := 8) hlt hmt
            obtain ⟨q, hq⟩ : ∃ q, ((k &&& m) != 0) = q := ⟨_, rfl⟩
            have hq' : ((((k &&& m : Nat) : Int)) != 0) = q := by rw [← hq]; rw [Bool.eq_iff_iff]; simp
            have hok : okAB ap k m = !(ap && q) := by unfold okAB; rw [hq]
            have hn0 : (R m && okAB ap k m) = (r && !(ap && q)) := by rw [hr, hok]
            have HN : Hid ((R m && okAB ap k m) = (r && !(ap && q))) := hn0
            clear hn0
            have HX : Hid (k ||| m = k ||| m) := rfl
            obtain ⟨x, hxx⟩ : ∃ x, x = k ||| m := ⟨_, rfl⟩
            have HXX : Hid (x = k ||| m) := hxx
            rw [← hxx] at hor hx
            have hx' : (x : Int) < 256 := by omega
            have cx : (arrT U)[x]? = some (.bool (U x)) := arrT_at U hx
            generalize hy : ((k &&& m : Nat) : Int) = y at hand hq'
            clear hy hr hq hok hxx HX
            cases r
            · go_wp2_with fail
              exact ⟨⟨m + 1, U, by omega, by go_num, rfl, both_no HC.out HN.out⟩, by simp [intOf]; omega⟩
            · cases ap
              · go_wp2_with fail
                refine ⟨⟨m + 1, putT U x, by omega, by go_num, ?_, ?_⟩, by simp [intOf]; omega⟩
                · rw [arrT_put U hx]
                · have := both_put HC.out hlt hmt HLk.out HN.out
                  rw [← HXX.out] at this
                  exact this
              · cases q
                · go_wp2_with fail
                  refine ⟨⟨m + 1, putT U x, by omega, by go_num, ?_, ?_⟩, by simp [intOf]; omega⟩
                  · rw [arrT_put U hx]
                  · have := both_put HC.out hlt hmt HLk.out HN.out
                    rw [← HXX.out] at this
                    exact this
                · go_wp2_with fail
                  exact ⟨⟨m + 1, U, by omega, by go_num, rfl, both_no HC.out HN.out⟩, by simp [intOf]; omega⟩
          · have hme : m = 256 := by omega
            subst hme
            go_wp2_with fail
            exact ⟨⟨k + 1, U, by omega, by go_num, rfl, both_next HC.out⟩, by simp [intOf]; omega⟩
    · have hke : k = 256 := by omega
      subst hke
      have HE : Hid (arrT T = arrT (bothT ap L R)) := arrT_ext (both_end HB.out)
      have hld := loadAt_row (W.alloc (.cells (arrT T) 119)) W.heap.size T (heap_alloc_last _ _)
      have hst := storeCells_row (W.alloc (.cells (arrT T) 119)) (w.heap.size + 1 + 1) noT T (HRes.out _)
      go_wp2_with fail
      unfold Oper.wp
      simp [execOp, Act.eval, hld, Result.andThen]
      rw [Oper.upon_value]
      have hl2 := loadVar_row ((W.alloc (.cells (arrT T) 119)).setRow (w.heap.size + 1 + 1) (arrT T)) (w.heap.size + 1 + 1) T (heap_setRow (HRes.out _))
      go_wp2
      refine bodyPost_ret (v := .agg (arrT T)) ?_ rfl ⟨by rw [HE.out], ?_⟩
      · simp [results, Try.results133, asAddr, Result.andThen, hl2]
      · exact below_setRow (B0.alloc B0.size _) (by omega) _

end Go.Proofs.Ytnmidppiakdanaa
