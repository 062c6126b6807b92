/-
  Slices of strings. Nothing of the program is named here but its types. Conditions: as each theorem states.
-/
import Derived.Test.YtdmpfonfghkffaaCharKit
namespace Go.Proofs.Ytdmpfonfghkffaa
open Go.RowKit

theorem add_block (a : Addr) (i : Nat) : (a.add i).block = a.block := by unfold Addr.add; split <;> rfl
/-- A slice of strings that reads as xs. -/
def StrS (w : World) (v : Value) (xs : List ByteArray) : Prop := ∃ ao cp, v = .slice ao xs.length cp ∧ ∀ j u, xs[j]? = some u → ∃ a : Addr, ao = some a ∧ w.cell? (a.add j) = some (.string u) ∧ a.block < w.heap.size
theorem StrS.kept {w w' : World} {v : Value} {xs : List ByteArray} (h : StrS w v xs) {S : Nat → Prop} (hk : Kept S w w') (hS : ∀ (a : Addr) n cp, v = .slice (some a) n cp → ¬ S a.block) : StrS w' v xs := by
  obtain ⟨ao, cp, hv, hc⟩ := h
  refine ⟨ao, cp, hv, fun j u hj => ?_⟩
  obtain ⟨a, ha, h1, h2⟩ := hc j u hj
  subst ha
  exact ⟨a, rfl, by rw [hk.cell (p := a.add j) (by rw [add_block]; exact h2) (by rw [add_block]; exact hS a _ _ hv)]; exact h1, Nat.lt_of_lt_of_le h2 hk.size⟩
theorem take_more {xs ys : List ByteArray} {i : Nat} {u t : ByteArray} (hx : xs[i]? = some u) (hy : ys[i]? = some t) (h : xs.take i = ys.take i) : (u = t → xs.take (i + 1) = ys.take (i + 1)) ∧ (u ≠ t → xs ≠ ys) := by
  constructor
  · intro e
    rw [List.take_add_one, List.take_add_one, hx, hy, h, e]
  · intro hne e
    rw [e, hy] at hx
    exact hne (Option.some.inj hx).symm

def cellsS (l : List ByteArray) : List Value := l.map Value.string
theorem cellsS_len (l : List ByteArray) : (cellsS l).length = l.length := List.length_map _
theorem own_strs {w : World} {base : Nat} {e : TypeId} {v : Value} {l : List ByteArray} (h : w.ownsRow base e 1 v l.length (cellsS l)) : StrS w v l := by
  obtain ⟨a, cp, rfl⟩ := own_form h
  refine ⟨a, cp, rfl, fun j u hj => ?_⟩
  have hj' : (cellsS l)[j]? = some (.string u) := by simp [cellsS, hj]
  have hlt : j < l.length := (List.getElem?_eq_some_iff.1 hj).1
  rcases h.2 with ⟨_, h0⟩ | ⟨g, cap, cur, e1, _⟩
  · omega
  · injection e1 with e1 e2 e3
    subst e1
    have := own_cell h hj'
    refine ⟨_, rfl, ?_, this.2⟩
    have e : (⟨g, 0, none⟩ : Addr).add j = ⟨g, j, none⟩ := by
      unfold Addr.add
      cases j <;> simp
    rw [e]; exact this.1

/-- A slice of strings in new memory (or with nothing in it). -/
def NewS (base : Nat) (w : World) (v : Value) (xs : List ByteArray) : Prop := (xs = [] ∧ ∃ a c, v = .slice a 0 c) ∨ w.ownsRow base 9 1 v xs.length (cellsS xs)
section
variable {base : Nat} {w w' : World} {v : Value} {xs : List ByteArray}
theorem NewS.strs (h : NewS base w v xs) : StrS w v xs := by
  rcases h with ⟨rfl, a, c, rfl⟩ | h
  · exact ⟨a, c, rfl, fun j u hj => by simp at hj⟩
  · exact own_strs h
theorem NewS.kept {S : Nat → Prop} (h : NewS base w v xs) (hk : Kept S w w') (hS : ∀ i, v.ownBlock = some i → ¬ S i) : NewS base w' v xs := by
  rcases h with h | h
  · exact .inl h
  · exact .inr (hk.owns h hS)
theorem NewS.form (h : NewS base w v xs) : ∃ a c, v = .slice a xs.length c := by
  rcases h with ⟨rfl, a, c, rfl⟩ | h
  · exact ⟨a, c, rfl⟩
  · exact own_form h
end

/-- A literal list of strings. -/
theorem lit_strs (w : World) (t : TypeId) (l : List ByteArray) : StrS (w.alloc (.cells (l.map Value.string).toArray t)) (.slice (some ⟨w.heap.size, 0, none⟩) l.length l.length) l := by
  refine ⟨_, _, rfl, fun j u hj => ⟨_, rfl, ?_, by simp⟩⟩
  have e : (⟨w.heap.size, 0, none⟩ : Addr).add j = ⟨w.heap.size, j, none⟩ := by
    unfold Addr.add
    cases j <;> simp
  rw [e, (Box.made w t _).cell]
  simp [hj]

end Go.Proofs.Ytdmpfonfghkffaa
