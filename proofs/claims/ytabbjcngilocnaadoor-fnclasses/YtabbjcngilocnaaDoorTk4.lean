/-
  CONTRACTS: slices.Insert over locks, one lock at a time, into a row of one's own.
  Conditions: each contract bears its own.
-/
import Derived.Test.YtabbjcngilocnaaDoorTk3
import Derived.Shelf.Spec.SlicesInsertGrow
namespace Go.Proofs.YtabbjcngilocnaaDoor
open Go.RowKit Go.Shelf Go.Lib
set_option linter.unusedVariables false
set_option linter.unusedSimpArgs false

def setLk : List Value → Nat → List Value → List Value
  | fs, _, [] => fs
  | fs, o, v :: r => setLk (fs.set o v) (o + 1) r

theorem setLk_mid : ∀ (vs a b c : List Value), b.length = vs.length → setLk (a ++ b ++ c) a.length vs = a ++ vs ++ c
  | [], a, b, c, h => by
    have : b = [] := List.eq_nil_of_length_eq_zero h
    simp [setLk, this]
  | v :: r, a, [], c, h => by simp at h
  | v :: r, a, b0 :: b, c, h => by
    have e1 : (a ++ b0 :: b ++ c).set a.length v = (a ++ [v]) ++ b ++ c := by
      rw [List.append_assoc, List.set_append_right _ _ (Nat.le_refl _), Nat.sub_self]
      simp
    have e2 := setLk_mid r (a ++ [v]) b c (by simpa using h)
    rw [setLk, e1, show a.length + 1 = (a ++ [v]).length by simp, e2]
    simp

theorem ownLk_cells (vs : List Value) : ∀ (w : World) (B g n cap : Nat) (fs : List Value) (o : Nat), w.ownsRow B 36 4 (.slice (some ⟨g, 0, none⟩) n cap) n fs →
    (w.setCells g o vs).ownsRow B 36 4 (.slice (some ⟨g, 0, none⟩) n cap) n (setLk fs o vs) ∧ w.grownBy (w.setCells g o vs) (some g) := by
  induction vs with
  | nil => intro w B g n cap fs o h; exact ⟨h, grown_refl _ _⟩
  | cons v r ih =>
    intro w B g n cap fs o h
    have h1 := h.stored o v
    have h2 := ih _ B g n cap _ (o + 1) h1.1
    exact ⟨h2.1, grown_tr h1.2 h2.2⟩

theorem flatLk_split (all : List LkI) (i : Nat) (hi : i ≤ all.length) : flatLk all = flatLk (all.take i) ++ flatLk (all.drop i) ∧ (flatLk (all.take i)).length = i * 4 ∧ (flatLk (all.drop i)).length = (all.length - i) * 4 := by
  refine ⟨by rw [← flatLk_append, List.take_append_drop], ?_, ?_⟩
  · rw [flatLk_len, List.length_take, Nat.min_eq_left hi]
  · rw [flatLk_len, List.length_drop]

theorem flatLk_cut (all : List LkI) (i : Nat) (hi : i ≤ all.length) : (flatLk all).take (i * 4) = flatLk (all.take i) ∧ (flatLk all).drop (i * 4) = flatLk (all.drop i) := by
  obtain ⟨e, l1, l2⟩ := flatLk_split all i hi
  rw [e]
  exact ⟨by rw [List.take_append_of_le_length (by omega), List.take_of_length_le (by omega)], by rw [List.drop_append_of_le_length (by omega), List.drop_of_length_le (by omega), List.nil_append]⟩

def vLk (x : LkI) : List Value := [.int .i64 x.e, .int .i64 x.c, .int .i64 x.p, .int .i64 x.f]

theorem flatLk_put (all : List LkI) (i : Nat) (x : LkI) : flatLk (all.take i ++ x :: all.drop i) = flatLk (all.take i) ++ vLk x ++ flatLk (all.drop i) := by
  rw [flatLk_append]
  simp [flatLk, vLk]

/-- First what stood behind is moved, then the new one is laid. -/
theorem lay_shift (all : List LkI) (i : Nat) (x : LkI) (hi : i ≤ all.length) (ys : List Value) (hy : ys.length = 4) :
    setLk (setLk (flatLk all ++ ys) ((i + 1) * 4) (flatLk (all.drop i))) (i * 4) (vLk x) = flatLk (all.take i ++ x :: all.drop i) := by
  obtain ⟨e, l1, l2⟩ := flatLk_split all i hi
  have hL : (flatLk all ++ ys).length = (all.length + 1) * 4 := by rw [List.length_append, flatLk_len, hy]; omega
  have s1 := setLk_mid (flatLk (all.drop i)) ((flatLk all ++ ys).take ((i + 1) * 4)) ((flatLk all ++ ys).drop ((i + 1) * 4)) [] (by rw [List.length_drop, hL, l2]; omega)
  rw [List.append_nil, List.append_nil, List.take_append_drop, List.length_take, hL, Nat.min_eq_left (by omega)] at s1
  rw [s1]
  have t1 : (flatLk all ++ ys).take ((i + 1) * 4) = flatLk (all.take i) ++ ((flatLk all ++ ys).take ((i + 1) * 4)).drop (i * 4) := by
    have h := List.take_append_drop (i * 4) ((flatLk all ++ ys).take ((i + 1) * 4))
    rw [List.take_take, Nat.min_eq_left (by omega), e, List.append_assoc, List.take_append_of_le_length (by omega), List.take_of_length_le (by omega), ← List.append_assoc, ← e] at h
    exact h.symm
  have s2 := setLk_mid (vLk x) (flatLk (all.take i)) (((flatLk all ++ ys).take ((i + 1) * 4)).drop (i * 4)) (flatLk (all.drop i)) (by rw [List.length_drop, List.length_take, hL, Nat.min_eq_left (by omega)]; simp [vLk]; omega)
  rw [← t1, l1] at s2
  rw [s2, flatLk_put]

/-- First the new one is laid, then what stood behind. -/
theorem lay_grow (all : List LkI) (i : Nat) (x : LkI) (hi : i ≤ all.length) (zs : List Value) (hz : zs.length = (all.length + 1 - i) * 4) :
    setLk (setLk (flatLk (all.take i) ++ zs) (i * 4) (vLk x)) ((i + 1) * 4) (flatLk (all.drop i)) = flatLk (all.take i ++ x :: all.drop i) := by
  obtain ⟨e, l1, l2⟩ := flatLk_split all i hi
  have s1 := setLk_mid (vLk x) (flatLk (all.take i)) (zs.take 4) (zs.drop 4) (by rw [List.length_take]; simp [vLk]; omega)
  rw [List.append_assoc, List.take_append_drop, l1] at s1
  rw [s1]
  have s2 := setLk_mid (flatLk (all.drop i)) (flatLk (all.take i) ++ vLk x) (zs.drop 4) [] (by rw [List.length_drop, l2, hz]; omega)
  rw [List.append_nil, List.append_nil, List.length_append, l1, show (vLk x).length = 4 from rfl, show i * 4 + 4 = (i + 1) * 4 by omega] at s2
  rw [s2, flatLk_put]

theorem vLk_at {w : World} {vb : Nat} {x : LkI} (h : LkAt w vb 0 x) : ∀ j v, (vLk x)[j]? = some v → w.cell? ⟨vb, j, none⟩ = some v := by
  intro j v hj
  obtain ⟨h0, h1, h2, h3⟩ := h
  match j with
  | 0 => simp [vLk] at hj; subst hj; exact h0
  | 1 => simp [vLk] at hj; subst hj; exact h1
  | 2 => simp [vLk] at hj; subst hj; exact h2
  | 3 => simp [vLk] at hj; subst hj; exact h3
  | k + 4 => simp [vLk] at hj

theorem vLk_one (x : LkI) : ∀ v ∈ vLk x, v.oneCell' = true := by
  intro v hv
  simp [vLk] at hv
  rcases hv with e | e | e | e <;> subst e <;> rfl

set_option maxRecDepth 100000 in
set_option maxHeartbeats 4000000 in
theorem insert_grow (g n c i vb : Nat) (cs vs : List Value) (w : World) (hi : i < n) (hn : n ≤ 1000) (hnc : n ≤ c) (hroom : c < n + 1) (hcl : cs.length = n * 4) (hvl : vs.length = 4)
    (hcs : ∀ j v, cs[j]? = some v → w.cell? ⟨g, j, none⟩ = some v)
    (hvs : ∀ j v, vs[j]? = some v → w.cell? ⟨vb, j, none⟩ = some v) (h1c : ∀ v ∈ cs, v.oneCell' = true) (h1v : ∀ v ∈ vs, v.oneCell' = true) :
    Calls Tryd.prog 46 #[.slice (some ⟨g, 0, none⟩) n c, .int .i64 (i : Int), .slice (some ⟨vb, 0, none⟩) 1 1] w fun e w' =>
      e = .returned (.slice (some ⟨w.heap.size, 0, none⟩) (n + 1) (grownCap w (n + 1) c 36)) ∧
      w' = (((w.alloc (.cells ((cs.take (i * 4)).toArray ++ Builtin.zeroCells (Value.agg #[.int .i64 0, .int .i64 0, .int .i64 0, .int .i64 0]).cells (n + 1 - i) ++ Builtin.zeroCells (Value.agg #[.int .i64 0, .int .i64 0, .int .i64 0, .int .i64 0]).cells (grownCap w (n + 1) c 36 - (n + 1))) 36)).drew.setCells w.heap.size (i * 4) vs).drew).setCells w.heap.size ((i + 1) * 4) (cs.drop (i * 4)) := by
  obtain ⟨i0, hi0, hz0, hzs, hzb⟩ := info_parts Tryd.info36
  have hsz : (Tryd.prog.info? 36).map (·.size) = some 4 := by rw [hi0]; simp [hzs]
  have mixed : Tryd.prog.follows Departure.mixedOrders = true := by kernel_rfl
  have hz2 : ¬ ((i : Int) = (n : Int)) := by omega
  have hz3 : (c : Int) < (n : Int) + 1 := by omega
  have hbw : g < w.heap.size := block_lt_of_cell (hcs 0 _ (List.getElem?_eq_getElem (by omega)))
  have hvw : vb < w.heap.size := block_lt_of_cell (hvs 0 _ (List.getElem?_eq_getElem (by omega)))
  have hkk : (n : Int) + 1 - (i : Int) = ((n + 1 - i : Nat) : Int) := by omega
  have hik : i + (n + 1 - i) = n + 1 := by omega
  have hold : (Builtin.firstCells i0.size i (.slice (some ⟨g, 0, none⟩) i c)).run Tryd.prog w.drew = .ok (cs.take (i * 4)).toArray w.drew := by
    rw [hzs]
    exact run_firstCells_some w.drew 4 i ⟨g, 0, none⟩ i c (cs.take (i * 4)) (by rw [List.length_take]; omega) (fun j v hj => by
      rw [Go.WideShapes.add_plain, Nat.zero_add]
      rw [List.getElem?_take] at hj
      split at hj
      · exact hcs j v hj
      · cases hj)
  have hrz : ∀ ty, (Builtin.append_ #[24, 3] ty #[.slice (some ⟨g, 0, none⟩) i c, .int .i64 ((n : Int) + 1 - (i : Int))]).run Tryd.prog w =
      .ok (.slice (some ⟨w.heap.size, 0, none⟩) (n + 1) (grownCap w (n + 1) c 36)) (w.drew.alloc (.cells ((cs.take (i * 4)).toArray ++ Builtin.zeroCells (Value.agg #[.int .i64 0, .int .i64 0, .int .i64 0, .int .i64 0]).cells (n + 1 - i) ++ Builtin.zeroCells (Value.agg #[.int .i64 0, .int .i64 0, .int .i64 0, .int .i64 0]).cells (grownCap w (n + 1) c 36 - (n + 1))) 36)) := fun ty => by
    have h := Lib.run_append_grow_zeros w 24 3 ty 36 i0 _ .i64 .i64 Tryd.underlying24 (by kernel_rfl) hi0 hz0 (some ⟨g, 0, none⟩) i c (cs.take (i * 4)) hold (n + 1 - i) (by omega) (by omega) (by omega) (by omega) (by rw [hzb]; omega) (by rw [hzb, hik]; exact growslice_fits hroom (by omega))
    rw [hik] at h
    rw [hkk]
    exact h
  obtain ⟨G, hG⟩ : ∃ G, G = grownCap w (n + 1) c 36 := ⟨_, rfl⟩
  obtain ⟨ROW, hROW⟩ : ∃ ROW : Array Value, ROW = (cs.take (i * 4)).toArray ++ Builtin.zeroCells (Value.agg #[.int .i64 0, .int .i64 0, .int .i64 0, .int .i64 0]).cells (n + 1 - i) ++ Builtin.zeroCells (Value.agg #[.int .i64 0, .int .i64 0, .int .i64 0, .int .i64 0]).cells (G - (n + 1)) := ⟨_, rfl⟩
  rw [← hG] at hrz ⊢
  rw [← hROW] at hrz ⊢
  have hGn : n + 1 ≤ G := by rw [hG]; exact grownCap_ge w _ _ _
  have hRl : (n + 1) * 4 ≤ ROW.size := by
    rw [hROW]
    simp [Builtin.zeroCells, Value.cells]
    omega
  obtain ⟨W1, hW1⟩ : ∃ W1, W1 = w.drew.alloc (.cells ROW 36) := ⟨_, rfl⟩
  rw [← hW1] at hrz
  have hN : ∀ j, j < (n + 1) * 4 → (W1.cell? ⟨w.heap.size, j, none⟩).isSome = true := fun j hj => by
    rw [hW1, World.cell?_alloc_at (w := w.drew) ROW _ w.heap.size j rfl, Array.getElem?_eq_getElem (by omega)]; rfl
  have hNf : ∀ j, W1.frozen? ⟨w.heap.size, j, none⟩ = false := fun j => by rw [hW1]; exact World.frozen?_alloc_at (w := w.drew) ROW _ w.heap.size j rfl
  have hOb : ∀ j v, w.cell? ⟨g, j, none⟩ = some v → W1.cell? ⟨g, j, none⟩ = some v := fun j v h => by rw [hW1, World.cell?_alloc_past (w := w.drew) _ g j hbw]; exact h
  have hOv : ∀ j v, w.cell? ⟨vb, j, none⟩ = some v → W1.cell? ⟨vb, j, none⟩ = some v := fun j v h => by rw [hW1, World.cell?_alloc_past (w := w.drew) _ vb j hvw]; exact h
  have hcpA : ∀ (W : World), (∀ x, W.cell? x = W1.cell? x) → (∀ x, W.frozen? x = W1.frozen? x) → ∀ ty o1 dl dc, o1 = i * 4 → dl = n + 1 - i → (Builtin.copy_ #[24, 24] ty #[.slice (some ⟨w.heap.size, o1, none⟩) dl dc, .slice (some ⟨vb, 0, none⟩) 1 1]).run Tryd.prog W = .ok (goInt (1 : Nat)) (W.setCells w.heap.size (i * 4) vs) := fun W hWc hWf ty o1 dl dc e1 e2 => by
    subst e1 e2
    exact run_copy_cellsK W _ _ ty 36 4 w.heap.size (i * 4) (n + 1 - i) dc ⟨vb, 0, none⟩ 1 1 vs Tryd.underlying24 hsz 1 (by simp only [Nat.min_def]; split <;> omega) (by rw [hvl])
      (fun j v hj => by rw [Go.WideShapes.add_plain, Nat.zero_add, hWc]; exact hOv _ v (hvs j v hj))
      (fun j hj => by rw [hWc]; exact hN _ (by omega)) (fun j hj => by rw [hWf]; exact hNf _) h1v
  have hG63 : G ≤ 9223372036854775807 := by
    have := grownCap_le_maxLen w (n + 1) c 36 (by unfold maxLen; omega)
    rw [← hG] at this
    unfold maxLen at this
    omega
  have hGi : ¬ (G = i) := by omega
  have hGim : ¬ (G = i + 1) := by omega
  have hci : ¬ (c = i) := by omega
  have hbN : g ≠ w.heap.size := by omega
  have hdl : (cs.drop (i * 4)).length = (n - i) * 4 := by rw [List.length_drop, hcl]; omega
  have hcpB : ∀ (W : World), (∀ x, W.cell? x = (W1.setCells w.heap.size (i * 4) vs).cell? x) → (∀ x, W.frozen? x = (W1.setCells w.heap.size (i * 4) vs).frozen? x) → ∀ ty o1 o2 dl dc sl sc, o1 = (i + 1) * 4 → o2 = i * 4 → dl = n - i → sl = n - i → (Builtin.copy_ #[24, 24] ty #[.slice (some ⟨w.heap.size, o1, none⟩) dl dc, .slice (some ⟨g, o2, none⟩) sl sc]).run Tryd.prog W = .ok (goInt (n - i : Nat)) (W.setCells w.heap.size ((i + 1) * 4) (cs.drop (i * 4))) := fun W hWc hWf ty o1 o2 dl dc sl sc e1 e2 e3 e4 => by
    subst e1 e2 e3 e4
    exact run_copy_cellsK W _ _ ty 36 4 w.heap.size ((i + 1) * 4) (n - i) dc ⟨g, i * 4, none⟩ (n - i) sc (cs.drop (i * 4)) Tryd.underlying24 hsz (n - i) (by simp only [Nat.min_def]; split <;> omega) hdl
      (fun j v hj => by
        rw [Go.WideShapes.add_plain, hWc, World.cell?_setCells_out _ _ _ _ _ (fun h _ => absurd h hbN)]
        exact hOb _ v (hcs (i * 4 + j) v (by rwa [List.getElem?_drop] at hj)))
      (fun j hj => by rw [hWc]; exact isSome_setCells _ _ _ _ (fun t ht => hN _ (by omega)) _ (hN _ (by omega)))
      (fun j hj => by rw [hWf, World.frozen?_setCells]; exact hNf _) (fun v hv => h1c v (List.mem_of_mem_drop hv))
  subst hW1
  have hE1 : ∀ x, ((w.alloc (.cells ROW 36)).drew).cell? x = (w.drew.alloc (.cells ROW 36)).cell? x := fun x => rfl
  have hE2 : ∀ x, ((w.alloc (.cells ROW 36)).drew).frozen? x = (w.drew.alloc (.cells ROW 36)).frozen? x := fun x => rfl
  have hF1 : ∀ x, (((w.alloc (.cells ROW 36)).drew.setCells w.heap.size (i * 4) vs).drew).cell? x = ((w.drew.alloc (.cells ROW 36)).setCells w.heap.size (i * 4) vs).cell? x := fun x => rfl
  have hF2 : ∀ x, (((w.alloc (.cells ROW 36)).drew.setCells w.heap.size (i * 4) vs).drew).frozen? x = ((w.drew.alloc (.cells ROW 36)).setCells w.heap.size (i * 4) vs).frozen? x := fun x => rfl
  have hw1 : IntKind.i64.wrap ((i : Int) + 1) = (i : Int) + 1 := by rw [IntKind.wrap_i64]; omega
  have hb1 : (0 : Int) ≤ (i : Int) + 1 := by omega
  have hin : i ≤ n := by omega
  have htn : ((i : Int) + 1).toNat = i + 1 := by omega
  have hb3 : (i : Int) ≤ (n : Int) := by omega
  clear hkk hik hold hROW hG hRl
  go_enter Tryd.func46, Tryd.ntmps46
  go_wp2_with (first
    | (at_builtin; refine Lib.wpList_append_run _ rfl _ _ _ _ rfl _ _ rfl rfl _ _ (hrz _) ?_)
    | (at_builtin; refine wpList_copy_runI _ rfl _ _ 24 24 rfl _ _ rfl rfl (hcpA _ hE1 hE2 _ _ _ _ (by first | rfl | omega) (by first | rfl | omega)) ?_))
  go_region_law_o (refine step_copy_runI rfl _ _ 24 24 rfl (.slice (some ⟨w.heap.size, (i + 1) * 4, none⟩) (n - i) (G - (i + 1))) (.slice (some ⟨g, i * 4, none⟩) (n - i) (c - i)) (by simp [Act.eval, Act.put]) (by simp [Act.eval, Act.put]) (hcpB _ hF1 hF2 3 _ _ _ (G - (i + 1)) _ (c - i) rfl rfl rfl rfl) ?_)
  go_wp2
  go_ret
  exact ⟨rfl, rfl⟩

end Go.Proofs.YtabbjcngilocnaaDoor
