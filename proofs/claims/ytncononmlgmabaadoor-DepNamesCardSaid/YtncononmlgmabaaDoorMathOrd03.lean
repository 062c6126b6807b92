/-
  Plain facts for the laws of layer 3: EVRs in a row. Nothing of the program is named here. Conditions: as each theorem states.
-/
import Derived.Test.YtncononmlgmabaaDoorMathEvr
namespace Go.Proofs.YtncononmlgmabaaDoor
namespace Evr
open Ver

theorem v_facts (a b c : List UInt8) : (-1 ≤ cmpV a b ∧ cmpV a b ≤ 1) ∧ (cmpV a b = 0 → cmpV a c = cmpV b c) ∧ (cmpV b c = 0 → cmpV a c = cmpV a b) ∧
    (cmpV a b < 0 → cmpV b c < 0 → cmpV a c < 0) ∧ (0 < cmpV a b → 0 < cmpV b c → 0 < cmpV a c) := by
  unfold cmpV
  have ra := cmp_range (parts a) (parts b)
  have rb := cmp_range (parts b) (parts c)
  have t1 := cmp_turn (parts a) (parts b)
  have t2 := cmp_turn (parts b) (parts c)
  have t3 := cmp_turn (parts a) (parts c)
  refine ⟨by omega, fun h => by rw [cmp_zero _ _ h], fun h => by rw [cmp_zero _ _ h], fun h1 h2 => ?_, fun h1 h2 => ?_⟩
  · have := cmp_less _ _ _ (parts_whole a) (parts_whole b) (parts_whole c) (by omega) (by omega)
    omega
  · have := cmp_less _ _ _ (parts_whole c) (parts_whole b) (parts_whole a) (by omega) (by omega)
    omega
theorem v_turn (a b : List UInt8) : cmpV b a = - cmpV a b := cmp_turn _ _
theorem v_self (a : List UInt8) : cmpV a a = 0 := cmp_self _
theorem e_turn (a b : E) : cmpE b a = - cmpE a b := by
  unfold cmpE
  rw [v_turn a.ver b.ver, v_turn a.rel b.rel]
  by_cases h1 : a.epoch < b.epoch
  · rw [if_pos h1, if_neg (by omega), if_pos h1]; rfl
  · by_cases h2 : b.epoch < a.epoch
    · rw [if_pos h2, if_neg h1, if_pos h2]
    · rw [if_neg h2, if_neg h1, if_neg h1, if_neg h2]
      by_cases h3 : cmpV a.ver b.ver ≠ 0 ∨ a.rel = [] ∨ b.rel = []
      · rw [if_pos h3, if_pos]
        rcases h3 with h3 | h3 | h3
        · exact .inl (by omega)
        · exact .inr (.inr h3)
        · exact .inr (.inl h3)
      · rw [if_neg h3, if_neg]
        rintro (h | h | h)
        · exact h3 (.inl (by omega))
        · exact h3 (.inr (.inr h))
        · exact h3 (.inr (.inl h))
theorem e_self (a : E) : cmpE a a = 0 := by
  unfold cmpE
  rw [if_neg (by omega), if_neg (by omega)]
  split
  · exact v_self _
  · exact v_self _
theorem e_range (a b : E) : -1 ≤ cmpE a b ∧ cmpE a b ≤ 1 := by
  unfold cmpE
  have h1 := (v_facts a.ver b.ver b.ver).1
  have h2 := (v_facts a.rel b.rel b.rel).1
  split
  · omega
  · split
    · omega
    · split <;> omega
theorem e_form (a b : E) (ha : a.rel ≠ []) (hb : b.rel ≠ []) : (a.epoch < b.epoch ∧ cmpE a b = -1) ∨ (b.epoch < a.epoch ∧ cmpE a b = 1) ∨
    (a.epoch = b.epoch ∧ cmpV a.ver b.ver ≠ 0 ∧ cmpE a b = cmpV a.ver b.ver) ∨ (a.epoch = b.epoch ∧ cmpV a.ver b.ver = 0 ∧ cmpE a b = cmpV a.rel b.rel) := by
  unfold cmpE
  by_cases h1 : a.epoch < b.epoch
  · exact .inl ⟨h1, if_pos h1⟩
  · by_cases h2 : b.epoch < a.epoch
    · exact .inr (.inl ⟨h2, by rw [if_neg h1, if_pos h2]⟩)
    · by_cases h3 : cmpV a.ver b.ver = 0
      · exact .inr (.inr (.inr ⟨by omega, h3, by rw [if_neg h1, if_neg h2, if_neg (fun h => h.elim (fun h => h h3) (fun h => h.elim ha hb))]⟩))
      · exact .inr (.inr (.inl ⟨by omega, h3, by rw [if_neg h1, if_neg h2, if_pos (.inl h3)]⟩))
theorem e_row (a b c : E) (ha : a.rel ≠ []) (hb : b.rel ≠ []) (hc : c.rel ≠ []) :
    (cmpE a b ≤ 0 → cmpE b c ≤ 0 → (cmpE a c = 0 ↔ cmpE a b = 0 ∧ cmpE b c = 0) ∧ cmpE a c ≤ 0) ∧
    (0 ≤ cmpE a b → 0 ≤ cmpE b c → (cmpE a c = 0 ↔ cmpE a b = 0 ∧ cmpE b c = 0) ∧ 0 ≤ cmpE a c) := by
  have f1 := e_form a b ha hb
  have f2 := e_form b c hb hc
  have f3 := e_form a c ha hc
  obtain ⟨v1, v2, v3, v4, v5⟩ := v_facts a.ver b.ver c.ver
  obtain ⟨r1, r2, r3, r4, r5⟩ := v_facts a.rel b.rel c.rel
  have v6 := (v_facts b.ver c.ver c.ver).1
  have r6 := (v_facts b.rel c.rel c.rel).1
  have v7 := (v_facts a.ver c.ver c.ver).1
  have r7 := (v_facts a.rel c.rel c.rel).1
  generalize cmpE a b = x at *
  generalize cmpE b c = y at *
  generalize cmpE a c = z at *
  generalize cmpV a.ver b.ver = V1 at *
  generalize cmpV b.ver c.ver = V2 at *
  generalize cmpV a.ver c.ver = V3 at *
  generalize cmpV a.rel b.rel = R1 at *
  generalize cmpV b.rel c.rel = R2 at *
  generalize cmpV a.rel c.rel = R3 at *
  generalize a.epoch = e1 at *
  generalize b.epoch = e2 at *
  generalize c.epoch = e3 at *
  rcases f1 with f1 | f1 | f1 | f1 <;> rcases f2 with f2 | f2 | f2 | f2 <;> first | (exfalso; omega; done) | (rcases f3 with f3 | f3 | f3 | f3 <;> first | (exfalso; omega; done) | (constructor <;> intro h1 h2 <;> constructor <;> omega))
end Evr
end Go.Proofs.YtncononmlgmabaaDoor
