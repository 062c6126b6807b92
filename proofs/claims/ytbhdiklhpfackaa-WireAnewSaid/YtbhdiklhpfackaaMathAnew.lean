/-
  Plain facts: what was read, written anew, are the bytes gone over. Conditions: as each theorem states.
-/
import Derived.Test.YtbhdiklhpfackaaWalkR4
namespace Go.Proofs.Ytbhdiklhpfackaa

theorem take_num {l : List UInt8} {least most : Int} {p v q : Nat} (h : rdNum l least most p = .ok (v, q)) : l.take p ++ num v = l.take q := by
  obtain ⟨h1, h2, h3, _⟩ := rdNum_ok h
  rw [h1, List.take_add, h2]

theorem rdText_ok {l : List UInt8} {most : Int} {p q : Nat} {t : List UInt8} (h : rdText l most p = .ok (t, q)) :
    l.take p ++ textB ⟨t.toArray⟩ = l.take q ∧ p ≤ q ∧ q ≤ l.length ∧ (t.length : Int) ≤ most := by
  unfold rdText at h
  cases hr : rdNum l 0 most p with
  | error k => rw [hr] at h; cases h
  | ok r =>
    obtain ⟨v, q1⟩ := r
    rw [hr] at h
    simp only [] at h
    obtain ⟨h1, _, h3, _, h5, h6⟩ := rdNum_ok hr
    by_cases hl : l.length < q1 + v
    · rw [if_pos hl] at h; cases h
    · rw [if_neg hl] at h
      injection h with h
      injection h with ht hq
      have hlen : t.length = v := by rw [← ht]; simp; omega
      have hsz : (ByteArray.mk t.toArray).size = v := hlen
      refine ⟨?_, by omega, by omega, by omega⟩
      have e : textB ⟨t.toArray⟩ = num v ++ t := by unfold textB; rw [hsz]
      rw [e, ← List.append_assoc, take_num hr, ← hq, List.take_add, ht]

theorem rdText_no {l : List UInt8} {most : Int} {p q : Nat} {k : Int} (h : rdText l most p = .error (q, k)) : p ≤ q := by
  unfold rdText at h
  cases hr : rdNum l 0 most p with
  | error k2 =>
    rw [hr] at h
    injection h with h
    injection h with h1 h2
    omega
  | ok r =>
    obtain ⟨v, q1⟩ := r
    rw [hr] at h
    simp only [] at h
    obtain ⟨h1, _⟩ := rdNum_ok hr
    by_cases hl : l.length < q1 + v
    · rw [if_pos hl] at h
      injection h with h
      injection h with h2 h3
      omega
    · rw [if_neg hl] at h; cases h
theorem rdNum_no {l : List UInt8} {least most : Int} {p : Nat} {k : Int} (h : rdNum l least most p = .error k) : k ≠ 0 := by
  have := rdNum_err _ _ _ _ _ _ _ _ h
  omega
end Go.Proofs.Ytbhdiklhpfackaa
