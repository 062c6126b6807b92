/-
  Plain facts on ranges of versions: what the laws of layer 4 say of an EVR in a range and of two ranges that meet. Nothing of the program is named here. Conditions: as each theorem states.
-/
import Derived.Test.YtjjjelgjjdgldaaDoorMathSpan
namespace Go.Proofs.YtjjjelgjjdgldaaDoor
namespace Span
open Ver Evr

/-- How two compare, as one of three. -/
theorem third {c : Int} (h : -1 ≤ c ∧ c ≤ 1) : ∃ f : Fin 3, c = (f.val : Int) - 1 := by
  rcases three h with rfl | rfl | rfl
  · exact ⟨0, rfl⟩
  · exact ⟨1, rfl⟩
  · exact ⟨2, rfl⟩
theorem meet_turn (a b : Nat) {c : Int} (h : -1 ≤ c ∧ c ≤ 1) : meetO b a (-c) = meetO a b c := by
  obtain ⟨f, rfl⟩ := third h
  rw [meet_mod b a, meet_mod a b]
  exact (by decide +kernel : ∀ (x y : Fin 8) (f : Fin 3), meetO y.val x.val (-((f.val : Int) - 1)) = meetO x.val y.val ((f.val : Int) - 1)) ⟨_, small a⟩ ⟨_, small b⟩ f
theorem meet_self (a : Nat) : meetO a a 0 = true := by
  rw [meet_mod]
  exact (by decide +kernel : ∀ x : Fin 8, meetO x.val x.val 0 = true) ⟨_, small a⟩
theorem meet_zero (a : Nat) (c : Int) : meetO 0 a c = true ∧ meetO a 0 c = true := by constructor <;> simp [meetO]
theorem equal_meets (k : Nat) {c : Int} (h : -1 ≤ c ∧ c ≤ 1) : meetO 2 k c = hasO k c := by
  obtain ⟨f, rfl⟩ := third h
  rw [meet_mod, has_mod]
  exact (by decide +kernel : ∀ (y : Fin 8) (f : Fin 3), meetO (2 % 8) y.val ((f.val : Int) - 1) = hasO y.val ((f.val : Int) - 1)) ⟨_, small k⟩ f
set_option maxRecDepth 100000 in
theorem both_fin : ∀ (x y : Fin 8) (p q c : Fin 3), ((1 ≤ p.val ∧ q.val ≤ 1 → (c.val = 1 ↔ p.val = 1 ∧ q.val = 1) ∧ c.val ≤ 1) ∧ (p.val ≤ 1 ∧ 1 ≤ q.val → (c.val = 1 ↔ p.val = 1 ∧ q.val = 1) ∧ 1 ≤ c.val)) →
    hasO x.val ((p.val : Int) - 1) = true → hasO y.val ((q.val : Int) - 1) = true → meetO x.val y.val ((c.val : Int) - 1) = true := by decide +kernel
/-- An EVR in both: they meet. -/
theorem both_meet (o k : Nat) {a b e : E} (ha : a.rel ≠ []) (hb : b.rel ≠ []) (he : e.rel ≠ []) (h1 : hasO o (cmpE e a) = true) (h2 : hasO k (cmpE e b) = true) : meetO o k (cmpE a b) = true := by
  have hr := e_row a e b ha he hb
  rw [e_turn e a] at hr
  obtain ⟨p, hp⟩ := third (e_range e a)
  obtain ⟨q, hq⟩ := third (e_range e b)
  obtain ⟨c, hc⟩ := third (e_range a b)
  rw [hp, hq, hc] at hr
  rw [hp, has_mod] at h1
  rw [hq, has_mod] at h2
  rw [hc, meet_mod]
  refine both_fin ⟨_, small o⟩ ⟨_, small k⟩ p q c ⟨fun h => ?_, fun h => ?_⟩ h1 h2
  · have := hr.1 (by omega) (by omega)
    omega
  · have := hr.2 (by omega) (by omega)
    omega
theorem or_small (o b : Nat) (hb : b < 8) : (o ||| b) % 8 = (o % 8) ||| b := by
  rw [show (8 : Nat) = 2 ^ 3 from rfl, Nat.or_mod_two_pow, show b % 2 ^ 3 = b from Nat.mod_eq_of_lt hb]
/-- A bit more. -/
theorem more_meet (o k b : Nat) (hb : b = 1 ∨ b = 2 ∨ b = 4) (h0 : o % 8 ≠ 0) {c : Int} (hc : -1 ≤ c ∧ c ≤ 1) (h : meetO o k c = true) : meetO (o ||| b) k c = true := by
  obtain ⟨f, rfl⟩ := third hc
  rw [meet_mod] at h ⊢
  rw [or_small o b (by omega)]
  have := (by decide +kernel : ∀ (x y : Fin 8) (f : Fin 3), x.val ≠ 0 → meetO x.val y.val ((f.val : Int) - 1) = true → meetO (x.val ||| 1) y.val ((f.val : Int) - 1) = true ∧ meetO (x.val ||| 2) y.val ((f.val : Int) - 1) = true ∧ meetO (x.val ||| 4) y.val ((f.val : Int) - 1) = true) ⟨_, small o⟩ ⟨_, small k⟩ f h0 h
  rcases hb with rfl | rfl | rfl
  · exact this.1
  · exact this.2.1
  · exact this.2.2
theorem more_has (o b : Nat) (hb : b = 1 ∨ b = 2 ∨ b = 4) (h0 : o % 8 ≠ 0) {c : Int} (hc : -1 ≤ c ∧ c ≤ 1) (h : hasO o c = true) : hasO (o ||| b) c = true := by
  obtain ⟨f, rfl⟩ := third hc
  rw [has_mod] at h ⊢
  rw [or_small o b (by omega)]
  have := (by decide +kernel : ∀ (x : Fin 8) (f : Fin 3), x.val ≠ 0 → hasO x.val ((f.val : Int) - 1) = true → hasO (x.val ||| 1) ((f.val : Int) - 1) = true ∧ hasO (x.val ||| 2) ((f.val : Int) - 1) = true ∧ hasO (x.val ||| 4) ((f.val : Int) - 1) = true) ⟨_, small o⟩ f h0 h
  rcases hb with rfl | rfl | rfl
  · exact this.1
  · exact this.2.1
  · exact this.2.2
end Span
end Go.Proofs.YtjjjelgjjdgldaaDoor
