/-
  What the walks over the laws of layer 2 ask of the program's Parts, Compare and Sort. Conditions: as each theorem states.
-/
import Derived.Test.YtmnmnbpecdofnaaDoorSort02
namespace Go.Proofs.YtmnmnbpecdofnaaDoor
open Go.RowKit Ver

/-- A slice of strings in new memory (or with nothing in it). -/
def NewS (base : Nat) (w : World) (v : Value) (xs : List ByteArray) : Prop := (xs = [] ∧ ∃ a c, v = .slice a 0 c) ∨ w.ownsRow base 9 1 v xs.length (cellsS xs)
/-- A slice of parts in new memory (or with nothing in it). -/
def NewP (base : Nat) (w : World) (v : Value) (l : List Pt) : Prop := (l = [] ∧ ∃ a c, v = .slice a 0 c) ∨ w.ownsRow base 29 2 v l.length (cellsP l)
section
variable {base : Nat} {w w' : World} {v : Value} {xs : List ByteArray} {l : List Pt}
theorem NewS.strs (h : NewS base w v xs) : StrS w v xs := by
  rcases h with ⟨rfl, a, c, rfl⟩ | h
  · exact ⟨a, c, rfl, fun j u hj => by simp at hj⟩
  · exact own_strs h
theorem NewS.kept {S : Nat → Prop} (h : NewS base w v xs) (hk : Kept S w w') (hS : ∀ i, v.ownBlock = some i → ¬ S i) : NewS base w' v xs := by
  rcases h with h | h
  · exact .inl h
  · exact .inr (hk.owns h hS)
theorem NewP.kept {S : Nat → Prop} (h : NewP base w v l) (hk : Kept S w w') (hS : ∀ i, v.ownBlock = some i → ¬ S i) : NewP base w' v l := by
  rcases h with h | h
  · exact .inl h
  · exact .inr (hk.owns h hS)
theorem NewS.form (h : NewS base w v xs) : ∃ a c, v = .slice a xs.length c := by
  rcases h with ⟨rfl, a, c, rfl⟩ | h
  · exact ⟨a, c, rfl⟩
  · exact own_form h
theorem NewP.form (h : NewP base w v l) : ∃ a c, v = .slice a l.length c := by
  rcases h with ⟨rfl, a, c, rfl⟩ | h
  · exact ⟨a, c, rfl⟩
  · exact own_form h
/-- A part's two cells. -/
theorem own_part {e : TypeId} {a : Option Addr} {n c : Nat} (h : w.ownsRow base e 2 (.slice a n c) l.length (cellsP l)) {i : Nat} (hi : i < l.length) : ∃ g, a = some ⟨g, 0, none⟩ ∧ g < w.heap.size ∧ w.cell? ⟨g, i * 2, none⟩ = some (.int .u8 ((ptAt l i).1 : Int)) ∧ w.cell? ⟨g, i * 2 + 1, none⟩ = some (.string ⟨(ptAt l i).2.toArray⟩) := by
  have h' := h
  rcases h.2 with ⟨_, h0⟩ | ⟨g, cap, cur, e1, _⟩
  · omega
  · injection e1 with e1 e2 e3
    subst e1; subst e2
    have hc := cellsP_at l i hi
    exact ⟨g, rfl, (own_cell h' hc.1).2, (own_cell h' hc.1).1, (own_cell h' hc.2).1⟩
theorem NewP.at {a : Option Addr} {n c : Nat} (h : NewP base w (.slice a n c) l) {i : Nat} (hi : i < l.length) : ∃ g, a = some ⟨g, 0, none⟩ ∧ g < w.heap.size ∧ w.cell? ⟨g, i * 2, none⟩ = some (.int .u8 ((ptAt l i).1 : Int)) ∧ w.cell? ⟨g, i * 2 + 1, none⟩ = some (.string ⟨(ptAt l i).2.toArray⟩) := by
  rcases h with ⟨rfl, _⟩ | h
  · simp at hi
  · exact own_part h hi
end

/-- A literal list of strings. -/
theorem lit_strs (w : World) (t : TypeId) (l : List ByteArray) : StrS (w.alloc (.cells (l.map Value.string).toArray t)) (.slice (some ⟨w.heap.size, 0, none⟩) l.length l.length) l := by
  refine ⟨_, _, rfl, fun j u hj => ⟨_, rfl, ?_, by simp⟩⟩
  have e : (⟨w.heap.size, 0, none⟩ : Addr).add j = ⟨w.heap.size, j, none⟩ := by
    unfold Addr.add
    cases j <;> simp
  rw [e, (Box.made w t _).cell]
  simp [hj]

/-- What is asked of Parts. -/
def PartsK : Prop := ∀ (s : ByteArray) (w : World), s.size ≤ 1000000 →
  Calls Tryd.prog 12 #[.string s] w fun e w' => ∃ v, e = .returned v ∧ NewP w.heap.size w' v (parts s.data.toList) ∧ Kept (fun _ => False) w w'
/-- What is asked of Compare. -/
def CompareK : Prop := ∀ (a b : ByteArray) (w : World), a.size ≤ 1000000 → b.size ≤ 1000000 →
  Calls Tryd.prog 14 #[.string a, .string b] w fun e w' => e = .returned (.int .i64 (cmpB a b)) ∧ Kept (fun _ => False) w w'
/-- What is asked of Sort. -/
def SortK : Prop := ∀ (va : Value) (xs : List ByteArray) (w : World), xs.length ≤ 1000 → (∀ u ∈ xs, u.size ≤ 1000000) → StrS w va xs →
  Calls Tryd.prog 17 #[va] w fun e w' => ∃ v, e = .returned v ∧ NewS w.heap.size w' v (Row.sort cmpB xs) ∧ Kept (fun _ => False) w w'
end Go.Proofs.YtmnmnbpecdofnaaDoor
