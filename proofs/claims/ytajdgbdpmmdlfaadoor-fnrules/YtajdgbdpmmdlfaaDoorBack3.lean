/-
  PLAIN FACTS: a rule without fault is the one that its line's words tell. No Go text is walked here.
  Conditions: each fact bears its own.
-/
import Derived.Test.YtajdgbdpmmdlfaaDoorRead1
import Derived.Test.YtajdgbdpmmdlfaaDoorBack2
namespace Go.Proofs.YtajdgbdpmmdlfaaDoor
open Go.RowKit

/-- Bytes cut at a byte, what is gathered already ahead. -/
def cutA (c : UInt8) : List UInt8 → List UInt8 → List (List UInt8)
  | acc, [] => [acc]
  | acc, x :: xs => if x = c then acc :: cutA c [] xs else cutA c (acc ++ [x]) xs

theorem cut_step (bs : List UInt8) (c : UInt8) (k : Nat) (h : k ≤ bs.length) :
    (cutSt bs c k).1.map (fun p => (bs.take p.2).drop p.1) ++ cutA c ((bs.take k).drop (cutSt bs c k).2) (bs.drop k) = cutA c [] bs := by
  induction k with
  | zero => simp [cutSt]
  | succ k ih =>
    have hk : k < bs.length := by omega
    have hfr := (cutSt_le bs c k).1
    have e := ih (by omega)
    rw [List.drop_eq_getElem_cons hk] at e
    simp only [cutSt, List.getElem?_eq_getElem hk, Option.getD_some]
    by_cases hc : bs[k] = c
    · rw [if_pos hc]
      simp only [cutA, if_pos hc] at e
      rw [← e]
      simp
    · rw [if_neg hc]
      simp only [cutA, if_neg hc] at e
      rw [← e]
      congr 2
      rw [List.take_succ_eq_append_getElem hk, List.drop_append_of_le_length (by simp; omega)]

theorem extract_list (t : ByteArray) (a b : Nat) : t.extract a b = ⟨((t.data.toList.take b).drop a).toArray⟩ := by
  apply ByteArray.ext
  apply Array.ext'
  simp [ByteArray.data_extract, Array.toList_extract, List.drop_take]

theorem cutB_eq (t : ByteArray) (c : UInt8) : cutB t c = (cutA c [] t.data.toList).map (fun l => (⟨l.toArray⟩ : ByteArray)) := by
  have e := cut_step t.data.toList c t.size (by rw [Array.length_toList]; exact Nat.le_refl _)
  have e2 : t.data.toList.drop t.size = [] := by
    apply List.drop_eq_nil_of_le
    rw [Array.length_toList]
    exact Nat.le_refl _
  rw [e2] at e
  simp only [cutA] at e
  rw [← e]
  simp [cutB, extract_list, Function.comp_def]

theorem digI_d (p : Int) (h0 : 0 ≤ p) (h8 : p ≤ 8) : digI ⟨#[digitB p]⟩ = p := by
  obtain ⟨e, a, b, _, _⟩ := digitB_ok p h0 h8
  simp only [digI, ByteArray.size]
  simp [a, b, e]

theorem readI_role (o n : Int) (h : roleB o n = true) : readI (roleT o n) = (o, n) := by
  obtain ⟨a1, a2, a3, a4⟩ := roleB_bd2 h
  obtain ⟨_, _, _, _, d1⟩ := digitB_ok o a1 a2
  obtain ⟨_, _, _, _, d2⟩ := digitB_ok n a3 a4
  have e : cutB (roleT o n) 46 = [⟨#[digitB o]⟩, ⟨#[digitB n]⟩] := by
    rw [cutB_eq]
    simp [roleT, cutA, d1, d2]
  simp [readI, e, digI_d _ a1 a2, digI_d _ a3 a4]

def wd (t : ByteArray) (j : Nat) : ByteArray := (cutB t 32)[j]?.getD ⟨#[]⟩

/-- The rule that a text's words tell, if they are three at least. -/
def parseW (t : ByteArray) : RuleI :=
  if (cutB t 32).length = 5 then ⟨4, (readI (wd t 0)).1, (readI (wd t 0)).2, 0, (readI (wd t 2)).1, (readI (wd t 2)).2, (readI (wd t 4)).1, (readI (wd t 4)).2⟩
  else if (cutB (wd t 2) 46).length = 1 then ⟨1, (readI (wd t 0)).1, (readI (wd t 0)).2, digI (wd t 2), 0, 0, 0, 0⟩
  else if (cutB (wd t 2) 46).length = 3 then ⟨3, (readI (wd t 0)).1, (readI (wd t 0)).2, 0, digI ((cutB (wd t 2) 46)[0]?.getD ⟨#[]⟩), digI ((cutB (wd t 2) 46)[1]?.getD ⟨#[]⟩), 0, digI ((cutB (wd t 2) 46)[2]?.getD ⟨#[]⟩)⟩
  else ⟨2, (readI (wd t 0)).1, (readI (wd t 0)).2, 0, (readI (wd t 2)).1, (readI (wd t 2)).2, 0, 0⟩

/-- The words of a right rule's line tell the rule. -/
theorem line_words (r : RuleI) (h : ruleCode r = 0) : 3 ≤ (cutB (lineT r) 32).length ∧ parseW (lineT r) = r := by
  obtain ⟨hk, hr, hb, hh⟩ := code0 h
  obtain ⟨a1, a2, a3, a4⟩ := roleB_bd2 hr
  obtain ⟨_, _, _, s1, _⟩ := digitB_ok _ a1 a2
  obtain ⟨_, _, _, s2, _⟩ := digitB_ok _ a3 a4
  have E := readI_role _ _ hr
  have e0 : (lineT r).data.toList = lineL r := by simp [lineT]
  obtain ⟨k, ho, hn, wh, oo, on, to, tn⟩ := r
  simp only at hk s1 s2 E
  have hk' : k = 1 ∨ k = 2 ∨ k = 3 ∨ k = 4 := by omega
  rcases hk' with rfl | rfl | rfl | rfl
  · simp [hasB, prinB] at hh
    simp [bareB] at hb
    obtain ⟨_, _, _, s3, s4⟩ := digitB_ok wh (by omega) (by omega)
    have e : cutB (lineT ⟨1, ho, hn, wh, oo, on, to, tn⟩) 32 = [roleT ho hn, ⟨#[60, 45]⟩, ⟨#[digitB wh]⟩] := by
      rw [cutB_eq, e0]
      simp [lineL, tailL, cutA, s1, s2, s3, roleT]
    have e2 : cutB ⟨#[digitB wh]⟩ 46 = [⟨#[digitB wh]⟩] := by
      rw [cutB_eq]
      simp [cutA, s4]
    refine ⟨by rw [e]; simp, ?_⟩
    simp only [parseW, wd, e]
    simp [e2, E, digI_d wh (by omega) (by omega), hb]
  · simp [hasB] at hh
    obtain ⟨b1, b2, b3, b4⟩ := roleB_bd2 hh
    simp [bareB] at hb
    obtain ⟨_, _, _, s3, s4⟩ := digitB_ok oo b1 b2
    obtain ⟨_, _, _, s5, s6⟩ := digitB_ok on b3 b4
    have e : cutB (lineT ⟨2, ho, hn, wh, oo, on, to, tn⟩) 32 = [roleT ho hn, ⟨#[60, 45]⟩, roleT oo on] := by
      rw [cutB_eq, e0]
      simp [lineL, tailL, cutA, s1, s2, s3, s5, roleT]
    have e2 : cutB (roleT oo on) 46 = [⟨#[digitB oo]⟩, ⟨#[digitB on]⟩] := by
      rw [cutB_eq]
      simp [roleT, cutA, s4, s6]
    refine ⟨by rw [e]; simp, ?_⟩
    simp only [parseW, wd, e]
    simp [e2, E, readI_role _ _ hh, hb]
  · simp [hasB] at hh
    obtain ⟨b1, b2, b3, b4⟩ := roleB_bd2 hh.1
    have hn' := hh.2
    simp [nameB] at hn'
    simp [bareB] at hb
    obtain ⟨_, _, _, s3, s4⟩ := digitB_ok oo b1 b2
    obtain ⟨_, _, _, s5, s6⟩ := digitB_ok on b3 b4
    obtain ⟨_, _, _, s7, s8⟩ := digitB_ok tn (by omega) (by omega)
    have e : cutB (lineT ⟨3, ho, hn, wh, oo, on, to, tn⟩) 32 = [roleT ho hn, ⟨#[60, 45]⟩, ⟨#[digitB oo, 46, digitB on, 46, digitB tn]⟩] := by
      rw [cutB_eq, e0]
      simp [lineL, tailL, cutA, s1, s2, s3, s5, s7, roleT]
    have e2 : cutB ⟨#[digitB oo, 46, digitB on, 46, digitB tn]⟩ 46 = [⟨#[digitB oo]⟩, ⟨#[digitB on]⟩, ⟨#[digitB tn]⟩] := by
      rw [cutB_eq]
      simp [cutA, s4, s6, s8]
    refine ⟨by rw [e]; simp, ?_⟩
    simp only [parseW, wd, e]
    simp [e2, E, digI_d _ b1 b2, digI_d _ b3 b4, digI_d tn (by omega) (by omega), hb]
  · simp [hasB] at hh
    obtain ⟨b1, b2, b3, b4⟩ := roleB_bd2 hh.1
    obtain ⟨c1, c2, c3, c4⟩ := roleB_bd2 hh.2
    simp [bareB] at hb
    obtain ⟨_, _, _, s3, _⟩ := digitB_ok oo b1 b2
    obtain ⟨_, _, _, s5, _⟩ := digitB_ok on b3 b4
    obtain ⟨_, _, _, s7, _⟩ := digitB_ok to c1 c2
    obtain ⟨_, _, _, s9, _⟩ := digitB_ok tn c3 c4
    have e : cutB (lineT ⟨4, ho, hn, wh, oo, on, to, tn⟩) 32 = [roleT ho hn, ⟨#[60, 45]⟩, roleT oo on, ⟨#[38]⟩, roleT to tn] := by
      rw [cutB_eq, e0]
      simp [lineL, tailL, cutA, s1, s2, s3, s5, s7, s9, roleT]
    refine ⟨by rw [e]; simp, ?_⟩
    simp only [parseW, wd, e]
    simp [E, readI_role _ _ hh.1, readI_role _ _ hh.2, hb]

/-- Both ways of reading a text tell the same: the rule whose line it is, or none. -/
theorem same_rule (t : ByteArray) : (ruleCode (parseW t) = 0 ∧ lineT (parseW t) = t ∧ 3 ≤ (cutB t 32).length) ↔ (ruleCode (ruleOfD (digTo t.data.toList t.size)) = 0 ∧ lineT (ruleOfD (digTo t.data.toList t.size)) = t) := by
  constructor
  · rintro ⟨h1, h2, _⟩
    have e := line_digits (parseW t) h1
    rw [h2] at e
    rw [e]
    exact ⟨h1, h2⟩
  · rintro ⟨h1, h2⟩
    have e := line_words _ h1
    rw [h2] at e
    rw [e.2]
    exact ⟨h1, h2, e.1⟩

end Go.Proofs.YtajdgbdpmmdlfaaDoor
