/-
  The walks over the document's answer for layer 2. Conditions: as each theorem states.
-/
import Derived.Test.YtmnmnbpecdofnaaDoorTexts
import Derived.Handy
import Derived.Lib.Hide
import Derived.Deep.CutRange
import Derived.BigQuiet
import Derived.StillTailTactics
import Derived.Deep.RegionHeld3
import Derived.Deep.CutBlock
namespace Go.Proofs.YtmnmnbpecdofnaaDoor
open Go.RowKit Ver




def cmpB (a b : ByteArray) : Int := cmpV a.data.toList b.data.toList
def cellsS (l : List ByteArray) : List Value := l.map Value.string
theorem cmp_order : Row.Order cmpB := ⟨fun _ _ => cmp_turn _ _, fun _ _ _ => cmp_le _ _ _ (parts_whole _) (parts_whole _) (parts_whole _)⟩
theorem cellsS_len (l : List ByteArray) : (cellsS l).length = l.length := List.length_map _
theorem own_strs {w : World} {base : Nat} {e : TypeId} {v : Value} {l : List ByteArray} (h : w.ownsRow base e 1 v l.length (cellsS l)) : StrS w v l := by
  obtain ⟨a, cp, rfl⟩ := own_form h
  refine ⟨a, cp, rfl, fun j u hj => ?_⟩
  have hj' : (cellsS l)[j]? = some (.string u) := by simp [cellsS, hj]
  have hlt : j < l.length := (List.getElem?_eq_some_iff.1 hj).1
  rcases h.2 with ⟨_, h0⟩ | ⟨g, cap, cur, e1, _⟩
  · omega
  · injection e1 with e1 e2 e3
    subst e1
    have := own_cell h hj'
    refine ⟨_, rfl, ?_, this.2⟩
    have e : (⟨g, 0, none⟩ : Addr).add j = ⟨g, j, none⟩ := by
      unfold Addr.add
      cases j <;> simp
    rw [e]; exact this.1

/-- Where x is put in. -/
theorem put_facts (x : ByteArray) (ys : List ByteArray) : ∃ K, K = ys.length - Row.behind cmpB x ys ∧ K ≤ ys.length ∧ (∀ m y, K < m + 1 → ys[m]? = some y → 0 < cmpB y x) ∧ (∀ m y, K = m + 1 → ys[m]? = some y → cmpB y x ≤ 0) := by
  refine ⟨_, rfl, by omega, fun m y hm hy => ?_, fun m y hm hy => Row.behind_last x ys m hm.symm y hy⟩
  apply Row.behind_all x ys y
  obtain ⟨j, rfl⟩ : ∃ j, m = ys.length - Row.behind cmpB x ys + j := ⟨m - (ys.length - Row.behind cmpB x ys), by omega⟩
  exact List.mem_of_getElem? (by rw [List.getElem?_drop]; exact hy)

end Go.Proofs.YtmnmnbpecdofnaaDoor
