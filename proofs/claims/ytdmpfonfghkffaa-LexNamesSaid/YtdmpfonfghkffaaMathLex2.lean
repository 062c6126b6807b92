/-
  What the program's iterator over a text tells: words, and bytes that may not be as words of one byte; what it has to do with the words of the text. No program is named here. Conditions: as each theorem states.
-/
import Derived.Test.YtdmpfonfghkffaaMathLex
namespace Go.Proofs.Ytdmpfonfghkffaa
namespace Lex

/-- A word that is not empty: its first byte, the others, its place. -/
abbrev Tk := (UInt8 × List UInt8) × Nat
def w2 (t : Tk) : Wd := (t.1.1 :: t.1.2, t.2)
/-- Words, and bytes that may not be, as they come. -/
def toks : Nat → List UInt8 → List Tk
  | _, [] => []
  | p, b :: l =>
    if kind b = 2 then ((b, l.takeWhile k2), p) :: toks (p + 1 + (l.takeWhile k2).length) (l.dropWhile k2)
    else if kind b = 0 then toks (p + 1) l
    else ((b, []), p) :: toks (p + 1) l
  termination_by _ l => l.length
  decreasing_by
    · exact Nat.lt_succ_of_le (List.dropWhile_sublist k2).length_le
    · simp
    · simp
/-- What a text begins with. -/
def hd7 (b : UInt8) (l : List UInt8) : List UInt8 := if kind b = 2 then l.takeWhile k2 else []
theorem toks_nil (p : Nat) : toks p [] = [] := by rw [toks]
theorem drop_take_len {p : UInt8 → Bool} : ∀ l : List UInt8, l.drop (l.takeWhile p).length = l.dropWhile p
  | [] => rfl
  | b :: l => by
    by_cases h : p b = true
    · rw [List.takeWhile_cons_of_pos h, List.dropWhile_cons_of_pos h, List.length_cons, List.drop_succ_cons]
      exact drop_take_len l
    · rw [List.takeWhile_cons_of_neg h, List.dropWhile_cons_of_neg h]
      rfl
theorem toks_step (p : Nat) (b : UInt8) (l : List UInt8) : toks p (b :: l) = (if kind b = 0 then [] else [((b, hd7 b l), p)]) ++ toks (p + 1 + (hd7 b l).length) (l.drop (hd7 b l).length) := by
  rw [toks]
  unfold hd7
  by_cases h2 : kind b = 2
  · rw [if_pos h2, if_pos h2, if_neg (by omega), drop_take_len]
    rfl
  · rw [if_neg h2, if_neg h2]
    by_cases h0 : kind b = 0
    · rw [if_pos h0, if_pos h0]
      rfl
    · rw [if_neg h0, if_neg h0]
      rfl
theorem hd7_len (b : UInt8) (l : List UInt8) : (hd7 b l).length ≤ l.length := by
  unfold hd7
  split
  · exact (List.takeWhile_sublist k2).length_le
  · simp
theorem toks_good : ∀ (n : Nat) (l : List UInt8), l.length ≤ n → (∀ b ∈ l, kind b ≠ 3) → ∀ p, (toks p l).map w2 = cont none p l ∧ ∀ t ∈ toks p l, kind t.1.1 ≠ 3
  | _, [], _, _, p => by rw [toks_nil]; exact ⟨rfl, by simp⟩
  | 0, b :: l, h, _, _ => by simp at h
  | n + 1, b :: l, h, h3, p => by
    have hl : l.length ≤ n := by simpa using h
    have h3' : ∀ c ∈ l, kind c ≠ 3 := fun c hc => h3 c (by simp [hc])
    have hb := h3 b (by simp)
    have hle := kind_le b
    rw [toks]
    by_cases h2 : kind b = 2
    · rw [if_pos h2, cont_word h2 p l h3']
      obtain ⟨i1, i2⟩ := toks_good n (l.dropWhile k2) (Nat.le_trans (List.dropWhile_sublist k2).length_le hl) (fun c hc => h3' c ((List.dropWhile_sublist k2).subset hc)) (p + 1 + (l.takeWhile k2).length)
      refine ⟨?_, ?_⟩
      · rw [List.map_cons, i1]
        rfl
      · intro t ht
        rcases List.mem_cons.1 ht with rfl | ht
        · exact hb
        · exact i2 t ht
    · rw [if_neg h2]
      obtain ⟨i1, i2⟩ := toks_good n l hl h3' (p + 1)
      by_cases h0 : kind b = 0
      · rw [if_pos h0, cont_space none p l h0]
        exact ⟨i1, i2⟩
      · rw [if_neg h0, cont_bracket none p l (by omega)]
        refine ⟨?_, ?_⟩
        · rw [List.map_cons, i1]
          rfl
        · intro t ht
          rcases List.mem_cons.1 ht with rfl | ht
          · exact hb
          · exact i2 t ht
theorem bad_cons (b : UInt8) (l : List UInt8) : bad (b :: l) = if kind b = 3 then some 0 else (bad l).map (· + 1) := rfl
theorem bad_drop : ∀ (l : List UInt8) (i : Nat), bad l = some i → (l.takeWhile k2).length ≤ i ∧ bad (l.dropWhile k2) = some (i - (l.takeWhile k2).length)
  | [], _, h => by simp [bad] at h
  | b :: l, i, h => by
    by_cases hb : k2 b = true
    · rw [List.takeWhile_cons_of_pos hb, List.dropWhile_cons_of_pos hb]
      rw [bad_cons, if_neg (by have : kind b = 2 := by simpa [k2] using hb
                               omega)] at h
      obtain ⟨j, hj, rfl⟩ := Option.map_eq_some_iff.1 h
      obtain ⟨i1, i2⟩ := bad_drop l j hj
      refine ⟨by simp; omega, ?_⟩
      rw [i2]
      congr 1
      simp
    · rw [List.takeWhile_cons_of_neg hb, List.dropWhile_cons_of_neg hb]
      exact ⟨Nat.zero_le _, h⟩
theorem toks_bad : ∀ (n : Nat) (l : List UInt8), l.length ≤ n → ∀ (p i : Nat), bad l = some i → ∃ pre b rest, toks p l = pre ++ ((b, []), p + i) :: rest ∧ kind b = 3 ∧ ∀ t ∈ pre, kind t.1.1 ≠ 3
  | _, [], _, _, _, h => by simp [bad] at h
  | 0, b :: l, h, _, _, _ => by simp at h
  | n + 1, b :: l, h, p, i, hb => by
    have hl : l.length ≤ n := by simpa using h
    rw [toks]
    rw [bad_cons] at hb
    by_cases h3 : kind b = 3
    · rw [if_pos h3] at hb
      injection hb with hb
      subst hb
      rw [if_neg (by omega), if_neg (by omega)]
      exact ⟨[], b, _, rfl, h3, by simp⟩
    · rw [if_neg h3] at hb
      obtain ⟨j, hj, rfl⟩ := Option.map_eq_some_iff.1 hb
      by_cases h2 : kind b = 2
      · rw [if_pos h2]
        obtain ⟨d1, d2⟩ := bad_drop l j hj
        obtain ⟨pre, c, rest, e, hc, hp⟩ := toks_bad n (l.dropWhile k2) (Nat.le_trans (List.dropWhile_sublist k2).length_le hl) (p + 1 + (l.takeWhile k2).length) _ d2
        refine ⟨((b, l.takeWhile k2), p) :: pre, c, rest, ?_, hc, ?_⟩
        · rw [e, show p + 1 + (l.takeWhile k2).length + (j - (l.takeWhile k2).length) = p + (j + 1) by omega]
          rfl
        · intro t ht
          rcases List.mem_cons.1 ht with rfl | ht
          · exact h3
          · exact hp t ht
      · rw [if_neg h2]
        obtain ⟨pre, c, rest, e, hc, hp⟩ := toks_bad n l hl (p + 1) j hj
        have ep : p + 1 + j = p + (j + 1) := by omega
        rw [ep] at e
        by_cases h0 : kind b = 0
        · rw [if_pos h0]
          exact ⟨pre, c, rest, e, hc, hp⟩
        · rw [if_neg h0]
          refine ⟨((b, []), p) :: pre, c, rest, by rw [e]; rfl, hc, ?_⟩
          intro t ht
          rcases List.mem_cons.1 ht with rfl | ht
          · exact h3
          · exact hp t ht
/-- All of them were good: so no byte is bad, and they are the words. -/
theorem toks_all {s : List UInt8} (h : ∀ t ∈ toks 0 s, kind t.1.1 ≠ 3) : bad s = none ∧ (toks 0 s).map w2 = words s := by
  cases hb : bad s with
  | none => exact ⟨rfl, (toks_good s.length s (Nat.le_refl _) (bad_none.1 hb) 0).1⟩
  | some i =>
    obtain ⟨pre, b, rest, e, h3, _⟩ := toks_bad s.length s (Nat.le_refl _) 0 i hb
    exact absurd h3 (h ((b, []), 0 + i) (by rw [e]; simp))
/-- The first that was bad: it is the first bad byte. -/
theorem toks_first {s : List UInt8} {p0 : List Tk} {x : Tk} (h : p0 ++ [x] <+: toks 0 s) (h0 : ∀ t ∈ p0, kind t.1.1 ≠ 3) (h3 : kind x.1.1 = 3) : bad s = some x.2 := by
  obtain ⟨r, hr⟩ := h
  cases hb : bad s with
  | none => exact absurd h3 ((toks_good s.length s (Nat.le_refl _) (bad_none.1 hb) 0).2 x (by rw [← hr]; simp))
  | some i =>
    obtain ⟨pre, b, rest, e, hk, hp⟩ := toks_bad s.length s (Nat.le_refl _) 0 i hb
    rw [Nat.zero_add] at e
    rw [e, List.append_assoc, List.singleton_append] at hr
    have key : ∀ (a c : List Tk) (u v : Tk) (ra rc : List Tk), a ++ u :: ra = c ++ v :: rc → (∀ t ∈ a, kind t.1.1 ≠ 3) → (∀ t ∈ c, kind t.1.1 ≠ 3) → kind u.1.1 = 3 → kind v.1.1 = 3 → u = v := by
      intro a
      induction a with
      | nil =>
        intro c u v ra rc he _ hc hu _
        cases c with
        | nil => injection he
        | cons d c =>
          injection he with h1 _
          exact absurd hu (by rw [h1]; exact hc d (by simp))
      | cons d a ih =>
        intro c u v ra rc he ha hc hu hv
        cases c with
        | nil =>
          injection he with h1 _
          exact absurd hv (by rw [← h1]; exact ha d (by simp))
        | cons d' c =>
          injection he with _ h2
          exact ih c u v ra rc h2 (fun t ht => ha t (by simp [ht])) (fun t ht => hc t (by simp [ht])) hu hv
    rw [key p0 pre x ((b, []), i) _ _ hr h0 hp h3 hk]
theorem toks_len : ∀ (n : Nat) (l : List UInt8), l.length ≤ n → ∀ p, (toks p l).length ≤ l.length
  | _, [], _, p => by rw [toks_nil]; simp
  | 0, b :: l, h, _ => by simp at h
  | n + 1, b :: l, h, p => by
    have hl : l.length ≤ n := by simpa using h
    rw [toks]
    split
    · have := toks_len n (l.dropWhile k2) (Nat.le_trans (List.dropWhile_sublist k2).length_le hl) (p + 1 + (l.takeWhile k2).length)
      have := (List.dropWhile_sublist (l := l) k2).length_le
      simp only [List.length_cons]
      omega
    · have := toks_len n l hl (p + 1)
      split <;> simp only [List.length_cons] <;> omega
end Lex
end Go.Proofs.Ytdmpfonfghkffaa
