/-
  Plain facts on EVRs as the program has them. Nothing of the program is named here. Conditions: as each theorem states.
-/
import Derived.Test.YtncononmlgmabaaDoorMathEvr
import Derived.Test.YtncononmlgmabaaDoorMem
namespace Go.Proofs.YtncononmlgmabaaDoor
open Go.RowKit Ver Evr

def evrE (n : Int) (v r : ByteArray) : E := ⟨n, v.data.toList, r.data.toList⟩
/-- An EVR as a struct. -/
def evrV (n : Int) (v r : ByteArray) : Value := .agg #[.int .i64 n, .string v, .string r]
theorem empty_text {r : ByteArray} : r.data.toList = [] ↔ r = ⟨#[]⟩ := by
  constructor
  · intro h
    cases r with
    | mk d =>
      have : d = #[] := by cases d; simp_all
      rw [this]
  · intro h; rw [h]
theorem text_ne {r : ByteArray} (h : r ≠ ⟨#[]⟩) : (r.toList == []) = false ∧ ¬ r.toList = [] := by
  have : ¬ r.toList = [] := by rw [ByteArray.toList_eq]; exact fun e => h (empty_text.1 e)
  exact ⟨beq_eq_false_iff_ne.2 this, this⟩
end Go.Proofs.YtncononmlgmabaaDoor
