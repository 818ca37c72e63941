/-
  CONTRACTS: spec.l2Put, a role put into its place.
  Conditions: each contract bears its own.
-/
import Derived.Test.YtnmidppiakdanaaRol1
import Derived.Test.YtnmidppiakdanaaPol1
import Derived.BigQuiet
import Derived.Deep.QuietTactic
import Derived.Deep.RegionHeld3
import Derived.Deep.AppendLies
import Derived.Deep.DeepCutAuto
import Derived.Deep.CutBlock
namespace Go.Proofs.Ytnmidppiakdanaa
open Go.RowKit
set_option linter.unusedVariables false
set_option linter.unusedSimpArgs false

theorem Try.info35 : (Try.prog.info? 35).map (fun i => (i.zero, i.size, i.bytes)) = some (some (.agg #[.int .i64 0, .int .i64 0]), 2, 16) := by kernel_rfl

theorem drewN2 (W : World) (a b : Nat) : (W.drewN a).drewN b = W.drewN (a + b) := by simp [World.drewN, Nat.add_assoc]

def sameR (p q : RoI) : Bool := p.1 == q.1 && p.2 == q.2
theorem sameR_iff (p q : RoI) : sameR p q = true ↔ p = q := by
  obtain ⟨a, b⟩ := p
  obtain ⟨c, d⟩ := q
  simp [sameR]

set_option maxHeartbeats 400000 in
theorem role_eql (p q : RoI) (w : World) : (binOp .eql 35 (.agg #[.int .i64 p.1, .int .i64 p.2]) (.agg #[.int .i64 q.1, .int .i64 q.2])).run Try.prog w = .ok (.bool (sameR p q)) w := by
  obtain ⟨a0, a1⟩ := p
  obtain ⟨b0, b1⟩ := q
  simp only [sameR]
  cases e0 : (a0 == b0)
  · simp [go_sem, e0]
  cases e1 : (a1 == b1)
  · simp [go_sem, e0, e1]
  · simp [go_sem, e0, e1]

attribute [local go_sem ↓] role_eql

/-- An append at a step of a region that draws its order. -/
theorem step_append_own2 {P : Program} {w : World} {ops : Array Oper} {o : Oper} {a : Act} {K : Act → World → Prop} {Q : Exit → Act → World → Prop} {E : Prop} (hgd : o.guard = none) (s x : Operand) (t : TypeId)
    (ho : o.op = .call { callee := .builtin .append, args := #[s, x], argTypes := #[t, t] })
    (base : Nat) (e : TypeId) (i : TypeInfo) (z : Value) (size bytes : Nat) (ht : P.underlying t = some (.slice e)) (hi : P.info? e = some i) (hz : i.zero = some z)
    (hsize : i.size = size) (hby : i.bytes = bytes) (hzs : z.cells.size = size) (hsz : 0 < size)
    (v : Value) (n : Nat) (xs : List Value) (hs : a.eval s = v) (hown : w.ownsRow base e size v n xs)
    (ad : Addr) (m c : Nat) (news : List Value) (hx : a.eval x = .slice (some ad) m c) (hl : news.length = m * size) (hnews : ∀ j u, news[j]? = some u → w.cell? (ad.add j) = some u) (h1 : ∀ u ∈ news, u.oneCell' = true)
    (h63 : n + m ≤ maxLen) (hbytes : (n + m) * bytes ≤ 140737488355328) (hbase : base ≤ w.heap.size)
    (h : ∀ v' w', w'.ownsRow base e size v' (n + m) (xs ++ news) → w.grownBy w' v.ownBlock → (v' = .slice none 0 0 ↔ v = .slice none 0 0 ∧ m = 0) → K (a.put o.dst v') w') :
    if Region.wanted o (yielded ops a.tmps) = true then Oper.wp P o a w K Q else E := by
  have hw : Region.wanted o (yielded ops a.tmps) = true := by simp [Region.wanted, hgd]
  rw [if_pos hw]
  exact wp_append_own w s x t ho base e i z size bytes ht hi hz hsize hby hzs hsz v n xs hs hown ad m c news hx hl hnews h1 h63 hbytes hbase h

theorem kpB {Bd : Nat} {W w' : World} (hb : Below Bd W w') : (∀ b o, b < Bd → w'.cell? ⟨b, o, none⟩ = W.cell? ⟨b, o, none⟩) ∧ Below Bd W w' :=
  ⟨fun b o h => hb.cell (p := ⟨b, o, none⟩) h, hb⟩

theorem news_take {w w' : World} {B Bd g n cap k : Nat} {zs : List RoI} (hz : n = zs.length) (h : Owns2 w B (.slice (some ⟨g, 0, none⟩) n cap) zs) (hg : g < Bd) (hb : Below Bd w w') (hk : k ≤ n) : ∀ j u, (flat2 (zs.take k))[j]? = some u → w'.cell? ((⟨g, 0, none⟩ : Addr).add j) = some u := by
  intro j u hj
  subst hz
  have h0 : w.ownsRow B 35 2 (.slice (some ⟨g, 0, none⟩) zs.length cap) zs.length (flat2 zs) := h
  have hjl : j < k * 2 := by
    by_cases q : j < k * 2
    · exact q
    · rw [List.getElem?_eq_none (by rw [flat2_len, List.length_take]; omega)] at hj; cases hj
  rw [Go.WideShapes.add_plain, Nat.zero_add, hb.cell (p := ⟨g, j, none⟩) hg, h0.cellAt j (by omega)]
  rw [flat2_take, List.getElem?_take, if_pos hjl] at hj
  exact hj

theorem news_drop {w w' : World} {B Bd g n cap k : Nat} {zs : List RoI} (hz : n = zs.length) (h : Owns2 w B (.slice (some ⟨g, 0, none⟩) n cap) zs) (hg : g < Bd) (hb : Below Bd w w') (hk : k ≤ n) : ∀ j u, (flat2 (zs.drop k))[j]? = some u → w'.cell? ((⟨g, k * 2, none⟩ : Addr).add j) = some u := by
  intro j u hj
  subst hz
  have h0 : w.ownsRow B 35 2 (.slice (some ⟨g, 0, none⟩) zs.length cap) zs.length (flat2 zs) := h
  have hjl : j < (zs.length - k) * 2 := by
    by_cases q : j < (zs.length - k) * 2
    · exact q
    · rw [List.getElem?_eq_none (by rw [flat2_len, List.length_drop]; omega)] at hj; cases hj
  rw [Go.WideShapes.add_plain, hb.cell (p := ⟨g, k * 2 + j, none⟩) hg, h0.cellAt (k * 2 + j) (by omega)]
  rw [flat2_drop, List.getElem?_drop] at hj
  exact hj

theorem owns_lower {w : World} {B B' : Nat} {v : Value} {n : Nat} {xs : List Value} (h : w.ownsRow B 35 2 v n xs) (hb : B' ≤ B) : w.ownsRow B' 35 2 v n xs := by
  refine ⟨h.1, ?_⟩
  rcases h.2 with h' | ⟨g, cap, cur, e, hg, rest⟩
  · exact .inl h'
  · exact .inr ⟨g, cap, cur, e, Nat.le_trans hb hg, rest⟩

theorem owns2_shape {w : World} {b : Nat} {v : Value} {n : Nat} {xs : List Value} (h : w.ownsRow b 35 2 v n xs) (hv : v ≠ .slice none 0 0) : ∃ g cap, v = .slice (some ⟨g, 0, none⟩) n cap := by
  rcases h.2 with ⟨h', _⟩ | ⟨g, cap, cur, h', _⟩
  · exact absurd h' hv
  · exact ⟨g, cap, h'⟩

set_option maxRecDepth 20000 in
set_option maxHeartbeats 2000000 in
theorem l2Put_c (B : Nat) (a : Option Addr) (n cap : Nat) (zs : List RoI) (r : RoI) (w : World) (hz : n = zs.length) (hn : n ≤ 1000) (h : Owns2 w B (.slice a n cap) zs) (hs : SS zs) (hB : B ≤ w.heap.size) (hv : a ≠ none) :
    Calls Try.prog 130 #[.slice a n cap, .agg #[.int .i64 r.1, .int .i64 r.2]] w fun e w' => ∃ (g m cap' : Nat) (ys : List RoI), e = .returned (.slice (some ⟨g, 0, none⟩) m cap') ∧ m = ys.length ∧ m ≤ n + 1 ∧ Owns2 w' B (.slice (some ⟨g, 0, none⟩) m cap') ys ∧ SS ys ∧ (∀ x, x ∈ ys ↔ x = r ∨ x ∈ zs) ∧ Below w.heap.size w w' := by
  obtain ⟨g, rfl⟩ : ∃ g, a = some ⟨g, 0, none⟩ := by
    rcases h.shape with ⟨h1, h2⟩ | ⟨g, cap', h1, _⟩
    · simp at h1; exact absurd h1.1 hv
    · simp at h1; exact ⟨g, h1.1⟩
  have HO : Hid (Owns2 w B (.slice (some ⟨g, 0, none⟩) n cap) zs) := h
  have HZ : Hid (n = zs.length) := hz
  have HS : Hid (SS zs) := hs
  have hgl : g < w.heap.size := by
    rcases h.shape with ⟨h1, _⟩ | ⟨g', cap', h1, _, h3, _⟩
    · simp at h1
    · simp at h1; omega
  have hcap : n ≤ cap ∧ cap ≤ maxLen := by
    rcases h.shape with ⟨h1, _⟩ | ⟨g', cap', h1, _, h3, h4, h5⟩
    · simp at h1
    · simp at h1; omega
  clear h hz hs hv
  obtain ⟨i0, hi, hz0, hz1, hz2⟩ := info_parts Try.info35
  have hn' : (n : Int) ≤ 1000 := by omega
  have hcn : (n : Int) ≤ (cap : Int) := by omega
  have R0 : Hid ((w.alloc (.cells #[.int .i64 r.1, .int .i64 r.2] 35)).cell? ⟨w.heap.size, 0, none⟩ = some (.int .i64 r.1) ∧ (w.alloc (.cells #[.int .i64 r.1, .int .i64 r.2] 35)).cell? ⟨w.heap.size, 1, none⟩ = some (.int .i64 r.2)) := ⟨by simp, by simp⟩
  have V0 : Hid (RolesV (w.alloc (.cells #[.int .i64 r.1, .int .i64 r.2] 35)) (some ⟨g, 0, none⟩) zs) := HO.out.read.below ((Below.refl _ _).alloc (Nat.le_refl _) _)
  go_enter Try.func130, Try.ntmps130
  go_upto_block 0 with fail
  go_cut [5] (fun s5 wx => ∃ k : Nat, k ≤ n ∧ s5 = .int .i64 (k : Int) ∧ (∀ j x, j < k → zs[j]? = some x → ltR x r = true) ∧ (∀ x, zs[k]? = some x → ltR x r = false) ∧ ∃ m, wx = (w.alloc (.cells #[.int .i64 r.1, .int .i64 r.2] 35)).drewN m)
  case first =>
    go_wp2_with fail
    go_loopw [5] (fun i wr => ∃ k : Nat, k ≤ n ∧ i = .int .i64 (k : Int) ∧ (∀ j x, j < k → zs[j]? = some x → ltR x r = true) ∧ ∃ m, wr = (w.alloc (.cells #[.int .i64 r.1, .int .i64 r.2] 35)).drewN m) (fun i _ => n - (intOf i).toNat)
    case atStart => exact ⟨0, Nat.zero_le _, rfl, fun j x hj => by omega, 0, rfl⟩
    case round =>
      obtain ⟨k, hk, rfl, hlo, m, rfl⟩ := hrel
      have HL : Hid (∀ j x, j < k → zs[j]? = some x → ltR x r = true) := hlo
      clear hlo
      by_cases hlt : k < n
      · have hlt' : decide ((k : Int) < (n : Int)) = true := by simp; omega
        obtain ⟨p, hp⟩ : ∃ p, zs[k]? = some p := ⟨_, List.getElem?_eq_getElem (by rw [← HZ.out]; exact hlt)⟩
        obtain ⟨g', e', c0, c1⟩ := V0.out k p hp
        cases e'
        obtain ⟨r0, r1⟩ := R0.out
        have HP : Hid (zs[k]? = some p) := hp
        have HNX : Hid (ltR p r = true → ∀ j x, j < k + 1 → zs[j]? = some x → ltR x r = true) := fun hl j x hj hx => by
          by_cases e : j = k
          · subst e; rw [HP.out] at hx; cases hx; exact hl
          · exact HL.out j x (by omega) hx
        clear hp
        by_cases o1 : p.1 < r.1
        · have b1 : decide (p.1 < r.1) = true := by simpa using o1
          have HN : Hid (ltR p r = true) := by show ltR p r = true; simp [ltR, o1]
          go_wp2
          go_quiet (fail)
          go_wp2
          exact ⟨⟨k + 1, by omega, by go_num, HNX.out HN.out, _, rfl⟩, by simp [intOf]; omega⟩
        · have b1 : decide (p.1 < r.1) = false := by simpa using o1
          by_cases o2 : p.1 = r.1
          · have b2 : (p.1 == r.1) = true := by simpa using o2
            have HO2 : Hid (p.1 = r.1) := o2
            clear o2
            by_cases o3 : p.2 < r.2
            · have b3 : decide (p.2 < r.2) = true := by simpa using o3
              have HN : Hid (ltR p r = true) := by show ltR p r = true; simp [ltR, HO2.out, o3]
              go_wp2
              go_quiet (fail)
              go_wp2
              exact ⟨⟨k + 1, by omega, by go_num, HNX.out HN.out, _, rfl⟩, by simp [intOf]; omega⟩
            · have b3 : decide (p.2 < r.2) = false := by simpa using o3
              have HN : Hid (ltR p r = false) := by show ltR p r = false; simp [ltR, HO2.out]; omega
              go_wp2
              go_quiet (fail)
              go_wp2_with fail
              go_meet
              case rel => exact ⟨k, hk, rfl, HL.out, fun x hx => by rw [HP.out] at hx; cases hx; exact HN.out, ⟨_, drewN2 _ _ _⟩⟩
          · have b2 : (p.1 == r.1) = false := by simpa using o2
            have HN : Hid (ltR p r = false) := by show ltR p r = false; simp [ltR, o2]; omega
            clear o2
            go_wp2
            go_quiet (fail)
            go_wp2_with fail
            go_meet
            case rel => exact ⟨k, hk, rfl, HL.out, fun x hx => by rw [HP.out] at hx; cases hx; exact HN.out, ⟨_, drewN2 _ _ _⟩⟩
      · have hkn : k = n := by omega
        subst hkn
        have hlt' : decide ((k : Int) < (k : Int)) = false := by simp
        go_wp2
        go_quiet (fail)
        go_wp2_with fail
        go_meet
        case rel => exact ⟨k, Nat.le_refl _, rfl, HL.out, (fun x hx => by rw [List.getElem?_eq_none (by rw [← HZ.out]; exact Nat.le_refl _)] at hx; cases hx), ⟨_, drewN2 _ _ _⟩⟩
  case rest =>
    obtain ⟨k, hk, rfl, hlo, hhi, m, rfl⟩ := hcut
    have HL : Hid (∀ j x, j < k → zs[j]? = some x → ltR x r = true) := hlo
    have HH : Hid (∀ x, zs[k]? = some x → ltR x r = false) := hhi
    clear hlo hhi
    by_cases hit : k < n ∧ zs[k]? = some r
    · have hlt' : decide ((k : Int) < (n : Int)) = true := by simp; omega
      have hltk : (k : Int) < (n : Int) := by omega
      obtain ⟨g', e', c0, c1⟩ := V0.out k r hit.2
      cases e'
      obtain ⟨r0, r1⟩ := R0.out
      have hsame : sameR r r = true := (sameR_iff _ _).2 rfl
      have HM : Hid (r ∈ zs) := List.mem_of_getElem? hit.2
      clear hit
      go_wp2_with fail
      go_quiet (fail)
      go_wp2
      go_ret
      refine ⟨g, n, cap, zs, rfl, HZ.out, by omega, HO.out.below (bdN (bdN ((Below.refl _ _).alloc (Nat.le_refl _) _) _) _), HS.out, fun x => ⟨fun hx => .inr hx, fun hx => ?_⟩, ?_⟩
      · rcases hx with rfl | hx
        · exact HM.out
        · exact hx
      · first | exact bdN ((Below.refl _ _).alloc (Nat.le_refl _) _) _ | exact bdN (bdN ((Below.refl _ _).alloc (Nat.le_refl _) _) _) _
    · have HNE : Hid (∀ x, zs[k]? = some x → ltR x r = false ∧ x ≠ r) := by
        intro x hx
        refine ⟨HH.out x hx, ?_⟩
        rintro rfl
        refine hit ⟨?_, hx⟩
        by_cases q : k < n
        · exact q
        · rw [List.getElem?_eq_none (by rw [← HZ.out]; omega)] at hx; cases hx
      clear hit
      go_upto_region 4 with fail
      go_cut [54] (fun s54 wx => s54 = .bool false ∧ ∃ m, wx = (w.alloc (.cells #[.int .i64 r.1, .int .i64 r.2] 35)).drewN m)
      case first =>
        by_cases hlt : k < n
        · have hlt' : decide ((k : Int) < (n : Int)) = true := by simp; omega
          have hltk : (k : Int) < (n : Int) := by omega
          obtain ⟨p, hp⟩ : ∃ p, zs[k]? = some p := ⟨_, List.getElem?_eq_getElem (by rw [← HZ.out]; exact hlt)⟩
          obtain ⟨g', e', c0, c1⟩ := V0.out k p hp
          cases e'
          obtain ⟨r0, r1⟩ := R0.out
          have hsame : sameR p r = false := by
            cases q : sameR p r
            · rfl
            · exact absurd ((sameR_iff _ _).1 q) (HNE.out p hp).2
          clear hp
          go_wp2_with fail
          go_quiet (fail)
          go_wp2_with fail
          go_meet
          case rel => exact ⟨rfl, ⟨_, drewN2 _ _ _⟩⟩
        · have hlt' : decide ((k : Int) < (n : Int)) = false := by simp; omega
          go_wp2_with fail
          go_quiet (fail)
          go_wp2_with fail
          go_meet
          case rel => exact ⟨rfl, ⟨_, drewN2 _ _ _⟩⟩
      case rest =>
        obtain ⟨rfl, m2, rfl⟩ := hcut
        have BW : Hid (Below w.heap.size w ((w.alloc (.cells #[.int .i64 r.1, .int .i64 r.2] 35)).drewN m2)) := bdN ((Below.refl _ _).alloc (Nat.le_refl _) _) _
        have hzW : ((w.alloc (.cells #[.int .i64 r.1, .int .i64 r.2] 35)).drewN m2).heap.size = w.heap.size + 1 := by simp
        obtain ⟨r0, r1⟩ := (show ((w.alloc (.cells #[.int .i64 r.1, .int .i64 r.2] 35)).drewN m2).cell? ⟨w.heap.size, 0, none⟩ = some (.int .i64 r.1) ∧ ((w.alloc (.cells #[.int .i64 r.1, .int .i64 r.2] 35)).drewN m2).cell? ⟨w.heap.size, 1, none⟩ = some (.int .i64 r.2) from R0.out)
        generalize hw5 : (w.alloc (.cells #[.int .i64 r.1, .int .i64 r.2] 35)).drewN m2 = w5 at BW hzW r0 r1 ⊢
        clear hw5 R0 V0 HH
        have H5 : Hid ((w5.alloc (.cells #[] 35)).ownsRow (w.heap.size + 1) 35 2 (.slice (some ⟨w.heap.size + 1, 0, none⟩) 0 0) 0 []) := by
          have h0 := World.ownsRow_lit (base := w.heap.size + 1) (e := 35) (size := 2) w5 #[] 0 (by omega) (Nat.zero_le _) rfl
          rw [hzW] at h0
          exact h0
        have hkc : (k : Int) ≤ (cap : Int) := by omega
        have hkn : (k : Int) ≤ (n : Int) := by omega
        have hk0 : (0 : Int) ≤ (k : Int) := by omega
        go_wp2_with (first
          | (at_builtin; refine wpList_append_own _ rfl _ _ 45 rfl (w.heap.size + 1) 35 i0 (.agg #[.int .i64 0, .int .i64 0]) 2 16 Try.underlying45 hi hz0 hz1 hz2 rfl (by decide) (.slice (some ⟨w.heap.size + 1, 0, none⟩) 0 0) 0 [] rfl H5.out ⟨g, 0, none⟩ k cap (flat2 (zs.take k)) rfl (by rw [flat2_len, List.length_take, ← HZ.out]; omega) (news_take HZ.out HO.out hgl (BW.out.alloc (by omega) _) hk) (flat2_one _) (by unfold maxLen; omega) (by omega) (by simp; omega) ?_))
        intro v6 w6 hown6 hgrow6 hnil6
        obtain ⟨g6, cap6, hv6⟩ := owns2_shape hown6 hnil6
        subst hv6
        have H6 : Hid (w6.ownsRow (w.heap.size + 1) 35 2 (.slice (some ⟨g6, 0, none⟩) k cap6) k (flat2 (zs.take k))) := by
          have h0 := hown6
          try simp only [Nat.zero_add, List.nil_append] at h0
          exact h0
        have BW6 : Hid (Below w.heap.size w w6) := (BW.out.alloc (by omega) _).grown hgrow6 (by simp; omega) (fun q e => by simp [Value.ownBlock] at e; omega)
        have hz6 : w.heap.size + 1 + 1 ≤ w6.heap.size := by have := hgrow6.size; simp at this; omega
        have s0 : w6.cell? ⟨w.heap.size, 0, none⟩ = some (.int .i64 r.1) := hgrow6.cell ((World.cell?_alloc_past _ _ _ (by show w.heap.size < w5.heap.size; omega)).trans r0) (by simp [Value.ownBlock])
        have s1 : w6.cell? ⟨w.heap.size, 1, none⟩ = some (.int .i64 r.2) := hgrow6.cell ((World.cell?_alloc_past _ _ _ (by show w.heap.size < w5.heap.size; omega)).trans r1) (by simp [Value.ownBlock])
        clear hown6 hgrow6 hnil6 H5 r0 r1
        go_wp2_with fail
        refine wp_region_held_drew (S := (fun w' => (∀ b o, b < w.heap.size + 1 → w'.cell? ⟨b, o, none⟩ = w6.cell? ⟨b, o, none⟩) ∧ Below (w.heap.size + 1) w6 w')) (by kernel_rfl) (kpB ⟨rfl, rfl, rfl, Nat.le_refl _, fun _ _ => rfl⟩) (fun hHeld => ?_)
        refine wpAnyH_take (i := 0) (v := ?_) rfl (by kernel_rfl) (by kernel_rfl) (by kernel_rfl) (fun _ _ _ h => h) (Or.inl ⟨by kernel_rfl, ?_⟩) (by assumption) ?_
        rotate_left 1
        · intro w hSw; (try dsimp only at hSw); go_simp; try (with_reducible rfl)
        try simp only [Act.put, List.getElem_toArray, List.getElem_cons_succ, List.getElem_cons_zero, List.setIfInBounds_toArray, List.set_cons_zero, List.set_cons_succ]
        refine wpAnyH_take (i := 1) (v := ?_) rfl (by kernel_rfl) (by kernel_rfl) (by kernel_rfl) (fun _ _ _ h => h) (Or.inl ⟨by kernel_rfl, ?_⟩) (by assumption) ?_
        rotate_left 1
        · intro w hSw; (try dsimp only at hSw); go_simp; try (with_reducible rfl)
        try simp only [Act.put, List.getElem_toArray, List.getElem_cons_succ, List.getElem_cons_zero, List.setIfInBounds_toArray, List.set_cons_zero, List.set_cons_succ]
        refine wpAnyH_take (i := 4) (v := ?_) rfl (by kernel_rfl) (by kernel_rfl) (by kernel_rfl) (fun _ _ _ h => h) (Or.inl ⟨by kernel_rfl, ?_⟩) (by assumption) ?_
        rotate_left 1
        · intro w hSw; (try dsimp only at hSw); go_simp; try (with_reducible rfl)
        try simp only [Act.put, List.getElem_toArray, List.getElem_cons_succ, List.getElem_cons_zero, List.setIfInBounds_toArray, List.set_cons_zero, List.set_cons_succ]
        refine wpAnyH_take (i := 5) (v := ?_) rfl (by kernel_rfl) (by kernel_rfl) (by kernel_rfl) (fun _ _ _ h => h) (Or.inl ⟨by kernel_rfl, ?_⟩) (by assumption) ?_
        rotate_left 1
        · intro w hSw; (try dsimp only at hSw); go_simp; try (with_reducible rfl)
        try simp only [Act.put, List.getElem_toArray, List.getElem_cons_succ, List.getElem_cons_zero, List.setIfInBounds_toArray, List.set_cons_zero, List.set_cons_succ]
        refine wpAnyH_take (i := 6) (v := ?_) rfl (by kernel_rfl) (by kernel_rfl) (by kernel_rfl) (fun _ _ _ h => h) (Or.inl ⟨by kernel_rfl, ?_⟩) (by assumption) ?_
        rotate_left 1
        · intro w hSw; (try dsimp only at hSw); go_simp; try (with_reducible rfl)
        try simp only [Act.put, List.getElem_toArray, List.getElem_cons_succ, List.getElem_cons_zero, List.setIfInBounds_toArray, List.set_cons_zero, List.set_cons_succ]
        refine wpAnyH_ready (rs := [2]) (by kernel_rfl) (by simp) ?_
        refine AllReadyH.cons rfl (fun K hK => ?_) AllReadyH.nil
        go_simp
        have hS := kpB (hHeld.2.alloc (by show w.heap.size + 1 ≤ w6.heap.size; omega) (.cells #[.int .i64 r.1, .int .i64 r.2] 35))
        refine hK.out _ _ hS (fun hHeld => ?_)
        clear hK K
        try simp only [Act.put, List.getElem_toArray, List.getElem_cons_succ, List.getElem_cons_zero, List.setIfInBounds_toArray, List.set_cons_zero, List.set_cons_succ]
        refine wpAnyH_ready (rs := [3]) (by kernel_rfl) (by simp) ?_
        refine AllReadyH.cons rfl (fun K hK => ?_) AllReadyH.nil
        refine step_append_own2 rfl (.tmp 61) (.tmp 63) 45 rfl (w.heap.size + 1) 35 i0 (.agg #[.int .i64 0, .int .i64 0]) 2 16 Try.underlying45 hi hz0 hz1 hz2 rfl (by decide) (.slice (some ⟨g6, 0, none⟩) k cap6) k (flat2 (zs.take k)) (by rfl) (H6.out.alloc _) ⟨w6.heap.size, 0, none⟩ 1 1 [.int .i64 r.1, .int .i64 r.2] (by rfl) (by rfl) (fun j u hj => by match j, hj with | 0, hj => simp at hj; subst hj; simp [Addr.add] | 1, hj => simp at hj; subst hj; simp [Addr.add]) (fun u hu => by simp at hu; rcases hu with rfl | rfl <;> rfl) (by unfold maxLen; omega) (by omega) (by show w.heap.size + 1 ≤ (w6.alloc _).heap.size; simp; omega) ?_
        intro v7 w7 hown7 hgrow7 hnil7
        have hS := kpB (hHeld.2.grown hgrow7 (by show w.heap.size + 1 ≤ (w6.alloc _).heap.size; simp; omega) (fun q e => by have := (H6.out.lt q e).1; omega))
        have H7 : Hid (w7.ownsRow (w.heap.size + 1) 35 2 v7 (k + 1) (flat2 (zs.take k) ++ [.int .i64 r.1, .int .i64 r.2])) := hown7
        have N7 : Hid (v7 ≠ .slice none 0 0) := fun e => by have := (hnil7.1 e).1; simp at this
        clear hown7 hnil7 hgrow7
        refine hK.out _ _ hS (fun hHeld => ?_)
        clear hK K
        try simp only [Act.put, List.getElem_toArray, List.getElem_cons_succ, List.getElem_cons_zero, List.setIfInBounds_toArray, List.set_cons_zero, List.set_cons_succ]
        refine wpAnyH_ready (rs := [7]) (by kernel_rfl) (by simp) ?_
        refine AllReadyH.cons rfl (fun K hK => ?_) AllReadyH.nil
        have hsl : (if cap = k then (some ⟨g, 0, none⟩ : Option Addr) else some ⟨g, k * 2, none⟩) = some (if cap = k then ⟨g, 0, none⟩ else ⟨g, k * 2, none⟩) := by split <;> rfl
        have hnw : ∀ j u, (flat2 (zs.drop k))[j]? = some u → w7.cell? ((if cap = k then (⟨g, 0, none⟩ : Addr) else ⟨g, k * 2, none⟩).add j) = some u := by
          by_cases hck : cap = k
          · intro j u hj; rw [List.drop_of_length_le (by rw [← HZ.out]; omega)] at hj; simp [flat2] at hj
          · rw [if_neg hck]; exact news_drop HZ.out HO.out hgl (BW6.out.trans (hHeld.2.mono (by omega))) hk
        refine step_append_own2 rfl (.tmp 64) (.tmp 67) 45 rfl (w.heap.size + 1) 35 i0 (.agg #[.int .i64 0, .int .i64 0]) 2 16 Try.underlying45 hi hz0 hz1 hz2 rfl (by decide) v7 (k + 1) (flat2 (zs.take k) ++ [.int .i64 r.1, .int .i64 r.2]) (by rfl) H7.out _ (n - k) (cap - k) (flat2 (zs.drop k)) (by rw [← hsl]; rfl) (by rw [flat2_len, List.length_drop, HZ.out]) hnw (flat2_one _) (by unfold maxLen; omega) (by omega) (by have h1 := hHeld.2.size; omega) ?_
        intro v8 w8 hown8 hgrow8 hnil8
        have hS := kpB (hHeld.2.grown hgrow8 (by have h1 := hHeld.2.size; omega) (fun q e => by have := (H7.out.lt q e).1; omega))
        have H8 : Hid (w8.ownsRow (w.heap.size + 1) 35 2 v8 (k + 1 + (n - k)) (flat2 (zs.take k) ++ [.int .i64 r.1, .int .i64 r.2] ++ flat2 (zs.drop k))) := hown8
        have N8 : Hid (v8 ≠ .slice none 0 0) := fun e => N7.out (hnil8.1 e).1
        clear hown8 hnil8 hgrow8
        refine hK.out _ _ hS (fun hHeld => ?_)
        clear hK K
        try simp only [Act.put, List.getElem_toArray, List.getElem_cons_succ, List.getElem_cons_zero, List.setIfInBounds_toArray, List.set_cons_zero, List.set_cons_succ]
        refine wpAnyH_ready (rs := [8]) (by kernel_rfl) (by simp) ?_
        refine AllReadyH.cons rfl (fun K hK => ?_) AllReadyH.nil
        go_simp
        refine hK.out _ _ (by assumption) (fun hHeld => ?_)
        clear hK K
        try simp only [Act.put, List.getElem_toArray, List.getElem_cons_succ, List.getElem_cons_zero, List.setIfInBounds_toArray, List.set_cons_zero, List.set_cons_succ]
        refine wpAnyH_done (by kernel_rfl) ?_ _
        obtain ⟨g8, cap8, hv8⟩ := owns2_shape H8.out N8.out
        subst hv8
        have BF : Hid (Below w.heap.size w w8) := BW6.out.trans (hHeld.2.mono (by omega))
        have HF : Hid (∃ ys : List RoI, k + 1 + (n - k) = ys.length ∧ k + 1 + (n - k) ≤ n + 1 ∧ Owns2 w8 B (.slice (some ⟨g8, 0, none⟩) (k + 1 + (n - k)) cap8) ys ∧ SS ys ∧ (∀ x, x ∈ ys ↔ x = r ∨ x ∈ zs)) := by
          have e2 : (zs.take k ++ r :: zs.drop k).length = k + 1 + (n - k) := by have := HZ.out; simp; omega
          refine ⟨zs.take k ++ r :: zs.drop k, e2.symm, by omega, ?_, ss_insert HS.out HL.out HNE.out, fun x => mem_insert k x⟩
          have h8 := owns_lower H8.out (show B ≤ w.heap.size + 1 by omega)
          have e1 : flat2 (zs.take k ++ r :: zs.drop k) = flat2 (zs.take k) ++ [.int .i64 r.1, .int .i64 r.2] ++ flat2 (zs.drop k) := by rw [flat2_append]; simp [flat2]
          show World.ownsRow _ B 35 2 _ (zs.take k ++ r :: zs.drop k).length (flat2 (zs.take k ++ r :: zs.drop k))
          rw [e1, e2]
          exact h8
        clear hsl hnw H8 N8 H7 N7 hHeld HL HNE HS
        go_wp2
        all_goals
          go_ret
          obtain ⟨ys, h1, h2, h3, h4, h5⟩ := HF.out
          exact ⟨g8, _, cap8, rfl, ys, h1, h2, h3, h4, fun a b => h5 (a, b), BF.out⟩

end Go.Proofs.Ytnmidppiakdanaa
