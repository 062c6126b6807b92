/-
  Plain facts on the first part of a version, and what follows it (chapter 2): nothing of the program is named here. Conditions: as each theorem states.
-/
import Derived.Test.YtjjjelgjjdgldaaDoorMathVer
namespace Go.Proofs.YtjjjelgjjdgldaaDoor
namespace Ver
/-- What stands ahead of the first part is left out. -/
def skip (l : List UInt8) : List UInt8 := l.dropWhile (fun b => kindB b == 0)
/-- The first part, and what follows it; (2, []): there is none. -/
def fst (l : List UInt8) : Pt × List UInt8 :=
  match skip l with
  | [] => ((2, []), [])
  | b :: r => if kindB b < 4 then ((kindB b, []), r) else (norm (kindB b, (b :: r).takeWhile (fun c => kindB c == kindB b)), (b :: r).dropWhile (fun c => kindB c == kindB b))
theorem parts_skip (l : List UInt8) : parts (skip l) = parts l := by
  induction l with
  | nil => rfl
  | cons b l ih =>
    unfold skip
    by_cases h : kindB b = 0
    · rw [List.dropWhile_cons, if_pos (by simp [h]), parts_nothing b h]
      exact ih
    · rw [List.dropWhile_cons, if_neg (by simp [h])]
theorem skip_head (l : List UInt8) (b : UInt8) (r : List UInt8) (h : skip l = b :: r) : kindB b ≠ 0 := by
  unfold skip at h
  intro h0
  have := List.head?_dropWhile_not (fun b => kindB b == 0) l
  rw [h] at this
  simp [h0] at this
theorem skip_len (l : List UInt8) : (skip l).length ≤ l.length := (List.dropWhile_sublist _).length_le
theorem fst_nil {l : List UInt8} (h : skip l = []) : fst l = ((2, []), []) := by unfold fst; rw [h]
theorem fst_mark {l r : List UInt8} {b : UInt8} (h : skip l = b :: r) (hb : kindB b < 4) : fst l = ((kindB b, []), r) := by unfold fst; rw [h]; simp only []; rw [if_pos hb]
theorem fst_run {l r : List UInt8} {b : UInt8} (h : skip l = b :: r) (hb : ¬ kindB b < 4) : fst l = (norm (kindB b, (b :: r).takeWhile (fun c => kindB c == kindB b)), (b :: r).dropWhile (fun c => kindB c == kindB b)) := by unfold fst; rw [h]; simp only []; rw [if_neg hb]
theorem fst_end {l : List UInt8} (h : (fst l).1.1 = 2) : parts l = [] := by
  rw [← parts_skip]
  cases hs : skip l with
  | nil => rfl
  | cons b r =>
    exfalso
    have h2 := kindB_ne2 b
    by_cases hb : kindB b < 4
    · rw [fst_mark hs hb] at h; exact h2 h
    · rw [fst_run hs hb] at h; exact h2 h
theorem fst_part {l : List UInt8} (h : (fst l).1.1 ≠ 2) : parts l = (fst l).1 :: parts (fst l).2 ∧ (fst l).2.length < l.length := by
  have hl := skip_len l
  rw [← parts_skip]
  cases hs : skip l with
  | nil => rw [fst_nil hs] at h; exact absurd rfl h
  | cons b r =>
    rw [hs, List.length_cons] at hl
    have h0 := skip_head l b r hs
    have h1 := kindB_le b
    have h2 := kindB_ne2 b
    by_cases hb : kindB b < 4
    · rw [fst_mark hs hb]
      exact ⟨parts_one b (by omega) r, by simp only []; omega⟩
    · rw [fst_run hs hb]
      have e := parts_run (kindB b) (by omega) (b :: r) 0 (b := b) rfl rfl
      rw [List.drop_zero, ← List.drop_drop, List.drop_zero] at e
      refine ⟨?_, ?_⟩
      · rw [e]
        congr 2
        exact (dw_drop _ _).symm
      · simp only []
        rw [dw_drop, List.length_drop, List.takeWhile_cons, if_pos (by simp)]
        simp only [List.length_cons]
        omega
theorem fst_out {l : List UInt8} (h : (fst l).1.1 = 2) : (fst l).1 = (2, []) ∧ (fst l).2 = [] := by
  cases hs : skip l with
  | nil => rw [fst_nil hs]; exact ⟨rfl, rfl⟩
  | cons b r =>
    exfalso
    have h2 := kindB_ne2 b
    by_cases hb : kindB b < 4
    · rw [fst_mark hs hb] at h; exact h2 h
    · rw [fst_run hs hb] at h; exact h2 h
theorem skip_fst_len (l : List UInt8) : (fst l).2.length ≤ l.length := by
  by_cases h : (fst l).1.1 = 2
  · rw [(fst_out h).2]; simp
  · exact Nat.le_of_lt (fst_part h).2
end Ver
end Go.Proofs.YtjjjelgjjdgldaaDoor
