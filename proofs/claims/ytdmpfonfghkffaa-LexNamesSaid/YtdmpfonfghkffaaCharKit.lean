/-
  A text's bytes, a cut of a text, a cell of a row. Nothing of the program is named here but its types. Conditions: as each theorem states.
-/
import Derived.Test.YtdmpfonfghkffaaMem
import Derived.Handy
import Derived.Lib.Hide
namespace Go.Proofs.Ytdmpfonfghkffaa
open Go.RowKit

theorem char_at {s : ByteArray} {k : Nat} {b : UInt8} (h : k < s.size) (hb : b = s[k]) : s.data.toList[k]? = some b := by
  rw [hb, List.getElem?_eq_getElem (by simpa using h)]
  rfl
theorem extract_list (s : ByteArray) (a b : Nat) : s.extract a b = ⟨((s.data.toList.drop a).take (b - a)).toArray⟩ := by
  have := ByteArray.extract_mk s.data.toList a b
  simpa using this
theorem own_cell {w : World} {base n size : Nat} {e : TypeId} {g c : Nat} {xs : List Value} (h : w.ownsRow base e size (.slice (some ⟨g, 0, none⟩) n c) n xs) {j : Nat} {u : Value} (hj : xs[j]? = some u) : w.cell? ⟨g, j, none⟩ = some u ∧ g < w.heap.size := by
  obtain ⟨hl, h | ⟨g', cap, cur, e1, e2, e3, e4, e5, e6, e7⟩⟩ := h
  · exact absurd h.1 (by simp)
  · injection e1 with e1 _ _
    injection e1 with e1
    injection e1 with e1
    subst e1
    refine ⟨?_, (show Box w g e cur from e3).lt⟩
    rw [cell_of_row w g j cur e (0, 0) e3, ← Array.getElem?_toList]
    rw [← e7, List.getElem?_take] at hj
    split at hj
    · exact hj
    · simp at hj
end Go.Proofs.Ytdmpfonfghkffaa
