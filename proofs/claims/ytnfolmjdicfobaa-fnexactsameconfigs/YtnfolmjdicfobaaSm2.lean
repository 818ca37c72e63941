/-
  CONTRACTS: spec.l6Same where a number or a length differs.
  Conditions: each contract bears its own.
-/
import Derived.Test.YtnfolmjdicfobaaSm1
import Derived.BigQuiet
import Derived.Deep.QuietTactic
namespace Go.Proofs.Ytnfolmjdicfobaa
open Go.RowKit
set_option linter.unusedVariables false
set_option linter.unusedSimpArgs false

set_option maxRecDepth 100000 in
set_option maxHeartbeats 8000000 in
theorem l6Same_no0 (g h : Nat) (c d : ConfI) (w : World) (hg : ConfAt w g c) (hh : ConfAt w h d) (r1 : c.rn ≤ 1048576) (r2 : d.rn ≤ 1048576) (r3 : c.fn ≤ 1048576) (r4 : d.fn ≤ 1048576) (r5 : c.cn ≤ 1048576) (r6 : d.cn ≤ 1048576) (b0 : (c.e != d.e) = true) :
    Calls Try.prog 38 #[.pointer (some ⟨g, 0, none⟩), .pointer (some ⟨h, 0, none⟩)] w fun e w' => e = .returned (.bool false) ∧ Below w.heap.size w w' := by
  have hgl := hg.lt
  have hhl := hh.lt
  obtain ⟨k0, k1, k2, k3, k4⟩ := hg
  obtain ⟨m0, m1, m2, m3, m4⟩ := hh
  clear k2 k3 k4 m2 m3 m4 k1 m1
  go_enter Try.func38, Try.ntmps38
  go_wp2
  go_quiet (fail)
  go_wp2
  go_ret
  exact ⟨rfl, bdN (Below.refl _ _) _⟩

set_option maxRecDepth 100000 in
set_option maxHeartbeats 8000000 in
theorem l6Same_no1 (g h : Nat) (c d : ConfI) (w : World) (hg : ConfAt w g c) (hh : ConfAt w h d) (r1 : c.rn ≤ 1048576) (r2 : d.rn ≤ 1048576) (r3 : c.fn ≤ 1048576) (r4 : d.fn ≤ 1048576) (r5 : c.cn ≤ 1048576) (r6 : d.cn ≤ 1048576) (b0 : (c.e != d.e) = false) (b1 : (c.f != d.f) = true) :
    Calls Try.prog 38 #[.pointer (some ⟨g, 0, none⟩), .pointer (some ⟨h, 0, none⟩)] w fun e w' => e = .returned (.bool false) ∧ Below w.heap.size w w' := by
  have hgl := hg.lt
  have hhl := hh.lt
  obtain ⟨k0, k1, k2, k3, k4⟩ := hg
  obtain ⟨m0, m1, m2, m3, m4⟩ := hh
  clear k2 k3 k4 m2 m3 m4
  go_enter Try.func38, Try.ntmps38
  go_wp2
  go_quiet (fail)
  go_wp2
  go_ret
  exact ⟨rfl, bdN (Below.refl _ _) _⟩

set_option maxRecDepth 100000 in
set_option maxHeartbeats 8000000 in
theorem l6Same_no2 (g h : Nat) (c d : ConfI) (w : World) (hg : ConfAt w g c) (hh : ConfAt w h d) (r1 : c.rn ≤ 1048576) (r2 : d.rn ≤ 1048576) (r3 : c.fn ≤ 1048576) (r4 : d.fn ≤ 1048576) (r5 : c.cn ≤ 1048576) (r6 : d.cn ≤ 1048576) (b0 : (c.e != d.e) = false) (b1 : (c.f != d.f) = false) (b2 : ((c.rn : Int) != (d.rn : Int)) = true) :
    Calls Try.prog 38 #[.pointer (some ⟨g, 0, none⟩), .pointer (some ⟨h, 0, none⟩)] w fun e w' => e = .returned (.bool false) ∧ Below w.heap.size w w' := by
  have hgl := hg.lt
  have hhl := hh.lt
  obtain ⟨k0, k1, k2, k3, k4⟩ := hg
  obtain ⟨m0, m1, m2, m3, m4⟩ := hh
  clear k3 k4 m3 m4
  go_enter Try.func38, Try.ntmps38
  go_wp2
  go_quiet (fail)
  go_wp2
  go_ret
  exact ⟨rfl, bdN (Below.refl _ _) _⟩

set_option maxRecDepth 100000 in
set_option maxHeartbeats 8000000 in
theorem l6Same_no3 (g h : Nat) (c d : ConfI) (w : World) (hg : ConfAt w g c) (hh : ConfAt w h d) (r1 : c.rn ≤ 1048576) (r2 : d.rn ≤ 1048576) (r3 : c.fn ≤ 1048576) (r4 : d.fn ≤ 1048576) (r5 : c.cn ≤ 1048576) (r6 : d.cn ≤ 1048576) (b0 : (c.e != d.e) = false) (b1 : (c.f != d.f) = false) (b2 : ((c.rn : Int) != (d.rn : Int)) = false) (b3 : ((c.fn : Int) != (d.fn : Int)) = true) :
    Calls Try.prog 38 #[.pointer (some ⟨g, 0, none⟩), .pointer (some ⟨h, 0, none⟩)] w fun e w' => e = .returned (.bool false) ∧ Below w.heap.size w w' := by
  have hgl := hg.lt
  have hhl := hh.lt
  obtain ⟨k0, k1, k2, k3, k4⟩ := hg
  obtain ⟨m0, m1, m2, m3, m4⟩ := hh
  clear k4 m4
  go_enter Try.func38, Try.ntmps38
  go_wp2
  go_quiet (fail)
  go_wp2
  go_ret
  exact ⟨rfl, bdN (Below.refl _ _) _⟩

set_option maxRecDepth 100000 in
set_option maxHeartbeats 8000000 in
theorem l6Same_no4 (g h : Nat) (c d : ConfI) (w : World) (hg : ConfAt w g c) (hh : ConfAt w h d) (r1 : c.rn ≤ 1048576) (r2 : d.rn ≤ 1048576) (r3 : c.fn ≤ 1048576) (r4 : d.fn ≤ 1048576) (r5 : c.cn ≤ 1048576) (r6 : d.cn ≤ 1048576) (b0 : (c.e != d.e) = false) (b1 : (c.f != d.f) = false) (b2 : ((c.rn : Int) != (d.rn : Int)) = false) (b3 : ((c.fn : Int) != (d.fn : Int)) = false) (b4 : ((c.cn : Int) != (d.cn : Int)) = true) :
    Calls Try.prog 38 #[.pointer (some ⟨g, 0, none⟩), .pointer (some ⟨h, 0, none⟩)] w fun e w' => e = .returned (.bool false) ∧ Below w.heap.size w w' := by
  have hgl := hg.lt
  have hhl := hh.lt
  obtain ⟨k0, k1, k2, k3, k4⟩ := hg
  obtain ⟨m0, m1, m2, m3, m4⟩ := hh
  go_enter Try.func38, Try.ntmps38
  go_wp2
  go_quiet (fail)
  go_wp2
  go_ret
  exact ⟨rfl, bdN (Below.refl _ _) _⟩

end Go.Proofs.Ytnfolmjdicfobaa
