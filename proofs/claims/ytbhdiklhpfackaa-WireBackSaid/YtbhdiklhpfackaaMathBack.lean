/-
  Plain facts: what steps write, and that it is read back. Conditions: as each theorem states.
-/
import Derived.Test.YtbhdiklhpfackaaWalkR4
import Derived.Test.YtbhdiklhpfackaaSteps01
namespace Go.Proofs.Ytbhdiklhpfackaa

/-- A step's bytes, where it is written. -/
def stepB (x : StepV) : List UInt8 := if x.kind = 0 ∧ 0 ≤ x.n then num x.n.toNat else if x.kind = 1 then textB x.s else []
def encB (L : Nat → StepV) : Nat → List UInt8
  | 0 => []
  | k + 1 => encB L k ++ stepB (L k)

theorem stepB_len (x : StepV) : (stepB x).length ≤ 10 + x.s.size := by
  unfold stepB
  have h1 := num_len x.n.toNat
  have h2 := num_len x.s.size
  split
  · omega
  · split
    · rw [textB_len]; omega
    · simp
theorem encB_len (L : Nat → StepV) : ∀ k, (encB L k).length ≤ tot L k
  | 0 => by simp [encB]
  | k + 1 => by
    have := encB_len L k
    have h2 := stepB_len (L k)
    simp only [encB, tot, List.length_append]
    omega
theorem encB_split (L : Nat → StepV) {i j : Nat} (h : i ≤ j) : ∃ rest, encB L j = encB L i ++ rest := by
  induction h with
  | refl => exact ⟨[], by simp⟩
  | step _ ih =>
    obtain ⟨rest, hr⟩ := ih
    exact ⟨_, by rw [encB, hr, List.append_assoc]⟩
theorem encB_at (L : Nat → StepV) {k len : Nat} (h : k < len) : ∃ rest, (encB L len).drop (encB L k).length = stepB (L k) ++ rest := by
  obtain ⟨rest, hr⟩ := encB_split L (i := k + 1) (j := len) h
  refine ⟨rest, ?_⟩
  rw [hr, encB, List.append_assoc, List.drop_left]

theorem rdText_reads (l : List UInt8) (most : Int) (p : Nat) (s : ByteArray) (rest : List UInt8) (hs : s.size ≤ 9223372036854775807) (hl : l.drop p = textB s ++ rest) (hp : p ≤ l.length) (hm : (s.size : Int) ≤ most) :
    rdText l most p = .ok (s.data.toList, p + (textB s).length) := by
  have h1 : l.drop p = num s.size ++ (s.data.toList ++ rest) := by rw [hl, textB, List.append_assoc]
  have h2 := rdNum_reads l 0 most p s.size _ hs h1 (by omega) hm
  have h3 : l.drop (p + (num s.size).length) = s.data.toList ++ rest := by rw [← List.drop_drop, h1, List.drop_left]
  have h4 : l.length = p + (num s.size).length + (s.data.toList ++ rest).length := by
    have := congrArg List.length h1
    simp only [List.length_drop, List.length_append] at this
    simp only [List.length_append]
    omega
  have h5 : s.data.toList.length = s.size := rfl
  unfold rdText
  rw [h2]
  simp only []
  rw [if_neg (by simp only [List.length_append] at h4; omega), h3, ← h5, List.take_left, textB_len, h5, Nat.add_assoc]

theorem rdNum_step (L : Nat → StepV) {k len n : Nat} (h : k < len) (h0 : (L k).kind = 0) (hn : (L k).n = (n : Int)) (hb : n ≤ 9223372036854775807) :
    rdNum (encB L len) n n (encB L k).length = .ok (n, (encB L (k + 1)).length) := by
  obtain ⟨rest, hr⟩ := encB_at L h
  have hs : stepB (L k) = num n := by unfold stepB; rw [if_pos ⟨h0, by omega⟩, hn]; rfl
  rw [hs] at hr
  rw [rdNum_reads _ _ _ _ n rest hb hr (Int.le_refl _) (Int.le_refl _), encB, List.length_append, hs]
theorem rdText_step (L : Nat → StepV) {k len : Nat} (h : k < len) (h1 : (L k).kind = 1) (hb : (L k).s.size ≤ 9223372036854775807) :
    rdText (encB L len) (L k).s.size (encB L k).length = .ok ((L k).s.data.toList, (encB L (k + 1)).length) := by
  obtain ⟨rest, hr⟩ := encB_at L h
  have hs : stepB (L k) = textB (L k).s := by unfold stepB; rw [if_neg (by omega), if_pos h1]
  have hp : (encB L k).length ≤ (encB L len).length := by
    obtain ⟨r2, h2⟩ := encB_split L (Nat.le_of_lt h)
    rw [h2, List.length_append]; omega
  rw [hs] at hr
  rw [rdText_reads _ _ _ _ rest hb hr hp (Int.le_refl _), encB, List.length_append, hs]
theorem encB_other (L : Nat → StepV) {k : Nat} (h0 : ¬ ((L k).kind = 0 ∧ 0 ≤ (L k).n)) (h1 : (L k).kind ≠ 1) : encB L (k + 1) = encB L k := by
  rw [encB, stepB, if_neg h0, if_neg h1, List.append_nil]
theorem encB_num (L : Nat → StepV) {k n : Nat} (h0 : (L k).kind = 0) (hn : (L k).n = (n : Int)) : encB L (k + 1) = encB L k ++ num n := by
  rw [encB, stepB, if_pos ⟨h0, by omega⟩, hn]; rfl
theorem encB_text (L : Nat → StepV) {k : Nat} (h1 : (L k).kind = 1) : encB L (k + 1) = encB L k ++ textB (L k).s := by
  rw [encB, stepB, if_neg (by omega), if_pos h1]
end Go.Proofs.Ytbhdiklhpfackaa
