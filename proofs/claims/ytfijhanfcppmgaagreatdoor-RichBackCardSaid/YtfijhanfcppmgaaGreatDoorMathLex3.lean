/-
  Where words lie in a text, as cuts of it. No program is named here. Conditions: as each theorem states.
-/
import Derived.Test.YtfijhanfcppmgaaGreatDoorK03
import Derived.Test.YtfijhanfcppmgaaGreatDoorK04
namespace Go.Proofs.YtfijhanfcppmgaaGreatDoor
namespace Lex
theorem lies_at : ∀ (ws : List Wd) (e : Nat) (pv : Bool) (r : List UInt8), Lies e pv ws r → ∀ (i : Nat) t a, ws[i]? = some (t, a) → ∃ pre rest, r = pre ++ (t ++ rest) ∧ a = e + pre.length
  | [], _, _, _, _, i, t, a, h => by simp at h
  | (t0, a0) :: ws, e, pv, r, hl, i, t, a, h => by
    obtain ⟨k, r', rfl, ha, _, _, hl⟩ := hl
    cases i with
    | zero =>
      simp at h
      obtain ⟨rfl, rfl⟩ := h
      exact ⟨_, r', rfl, by rw [ha]; simp⟩
    | succ i =>
      obtain ⟨pre, rest, rfl, e2⟩ := lies_at ws _ _ r' hl i t a (by simpa using h)
      exact ⟨List.replicate k 32 ++ (t0 ++ pre), rest, by simp, by rw [e2, ha]; simp; omega⟩
theorem words_at {s : List UInt8} (hb : bad s = none) {i : Nat} {t : List UInt8} {a : Nat} (h : (words s)[i]? = some (t, a)) : ∃ pre rest, s = pre ++ (t ++ rest) ∧ a = pre.length := by
  obtain ⟨pre, rest, e, ea⟩ := lies_at _ _ _ _ (lies_words hb) i t a h
  exact ⟨pre, rest, e, by omega⟩
theorem words_cut {s : ByteArray} (hb : bad s.data.toList = none) {i : Nat} {t : List UInt8} {a : Nat} (h : (words s.data.toList)[i]? = some (t, a)) : a + t.length ≤ s.size ∧ s.extract a (a + t.length) = ⟨t.toArray⟩ := by
  obtain ⟨pre, rest, e, ea⟩ := words_at hb h
  have hs : s.data.toList.length = s.size := rfl
  refine ⟨by rw [← hs, e, ea]; simp only [List.length_append]; omega, ?_⟩
  rw [extract_list, e, ea]
  congr 1
  rw [List.drop_left, Nat.add_sub_cancel_left, List.take_left]
theorem lies_step {S : List UInt8} {E : Nat} {pv : Bool} {t : List UInt8} {a : Nat} {ws : List Wd} (h : Lies E pv ((t, a) :: ws) (S.drop E)) (hE : E ≤ S.length) :
    E ≤ a ∧ a + t.length ≤ S.length ∧ (∀ k, E ≤ k → k < a → S[k]? = some 32) ∧ (S.drop a).take t.length = t ∧ plain t = true ∧ (a = E → pv = true ∨ bracketB t = true) ∧ Lies (a + t.length) (bracketB t) ws (S.drop (a + t.length)) := by
  obtain ⟨k, r', hr, ha, hp, hc, hl⟩ := h
  have hlen := congrArg List.length hr
  simp only [List.length_drop, List.length_append, List.length_replicate] at hlen
  have hda : S.drop a = t ++ r' := by
    rw [ha, ← List.drop_drop, hr]
    exact List.drop_left' (by simp)
  refine ⟨by omega, by omega, fun j h1 h2 => ?_, by rw [hda]; exact List.take_left' rfl, hp, fun e => hc (by omega), ?_⟩
  · have e1 : S[j]? = (S.drop E)[j - E]? := by rw [List.getElem?_drop]; congr 1; omega
    rw [e1, hr, List.getElem?_append_left (by simp; omega)]
    simp [List.getElem?_replicate]
    omega
  · have e2 : S.drop (a + t.length) = r' := by rw [← List.drop_drop, hda]; exact List.drop_left' rfl
    rw [e2]
    exact hl
theorem lies_end {S : List UInt8} {E : Nat} {pv : Bool} (h : Lies E pv [] (S.drop E)) : ∀ k, E ≤ k → k < S.length → S[k]? = some 32 := by
  intro k h1 h2
  have e1 : S[k]? = (S.drop E)[k - E]? := by rw [List.getElem?_drop]; congr 1; omega
  obtain ⟨b, hb⟩ : ∃ b, S[k]? = some b := ⟨_, List.getElem?_eq_getElem h2⟩
  rw [hb]
  rw [e1] at hb
  rw [h b (List.mem_of_getElem? hb)]
end Lex
end Go.Proofs.YtfijhanfcppmgaaGreatDoor
