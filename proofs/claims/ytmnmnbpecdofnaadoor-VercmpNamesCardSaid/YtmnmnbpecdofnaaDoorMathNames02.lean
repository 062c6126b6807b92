/-
  Plain facts for the law VercmpNames. Nothing of the program is named here. Conditions: as each theorem states.
-/
import Derived.Test.YtmnmnbpecdofnaaDoorMathLaws02
import Derived.KernelRfl
namespace Go.Proofs.YtmnmnbpecdofnaaDoor
open Ver

def rowN : List ByteArray := [⟨#[49, 126, 126]⟩, ⟨#[49, 126]⟩, ⟨#[49, 126, 49]⟩, ⟨#[49]⟩, ⟨#[49, 94]⟩, ⟨#[49, 94, 49]⟩, ⟨#[49, 46, 97]⟩, ⟨#[49, 46, 97, 97]⟩, ⟨#[49, 46, 98]⟩, ⟨#[49, 46, 48]⟩, ⟨#[49, 46, 48, 126, 120, 46, 57]⟩, ⟨#[49, 46, 48]⟩, ⟨#[49, 46, 48, 97]⟩, ⟨#[49, 46, 48, 46, 48]⟩, ⟨#[49, 46, 49]⟩]
def checkN (i k : Nat) : Bool := decide (i = 10) || decide (k = 10) || decide (k ≤ i) || (decide (i = 9) && decide (k = 11)) ||
  (match rowN[i]?, rowN[k]? with
   | some x, some y => !(x.data.toList == y.data.toList) && !(x.data.toList == [49, 46, 48, 126, 120, 46, 57]) && !(y.data.toList == [49, 46, 48, 126, 120, 46, 57]) && (cmpB x y == -1)
   | _, _ => true)
theorem checkN_all : (List.range 15).all (fun i => (List.range 15).all (fun k => checkN i k)) = true := by kernel_rfl
def sTen : ByteArray := ⟨#[49, 46, 48, 126, 120, 46, 57]⟩
theorem rowN_far {i k : Nat} {x y : ByteArray} (hx : rowN[i]? = some x) (hy : rowN[k]? = some y) (h1 : i < k) (h2 : i ≠ 10) (h3 : k ≠ 10) (h4 : ¬ (i = 9 ∧ k = 11)) : x ≠ y ∧ x ≠ sTen ∧ y ≠ sTen ∧ cmpB x y = -1 := by
  have hi : i < 15 := (List.getElem?_eq_some_iff.1 hx).1
  have hk : k < 15 := (List.getElem?_eq_some_iff.1 hy).1
  have h := checkN_all
  rw [List.all_eq_true] at h
  have h := h i (List.mem_range.2 hi)
  rw [List.all_eq_true] at h
  have h := h k (List.mem_range.2 hk)
  unfold checkN at h
  rw [hx, hy] at h
  simp only [h2, h3, decide_false, Bool.false_or, Nat.not_le.2 h1, Bool.or_eq_true, Bool.and_eq_true, decide_eq_true_eq, Bool.not_eq_true', beq_eq_false_iff_ne, beq_iff_eq] at h
  rcases h with h | ⟨⟨⟨a1, a2⟩, a3⟩, a4⟩
  · exact absurd h h4
  · exact ⟨fun e => a1 (by rw [e]), fun e => a2 (by rw [e]; rfl), fun e => a3 (by rw [e]; rfl), a4⟩
theorem ten_list : sTen.toList = [49, 46, 48, 126, 120, 46, 57] := by rw [ByteArray.toList_eq]; rfl
theorem checkT_all : (List.range 15).all (fun k => decide (k = 10) || (match rowN[k]? with | some y => !(y.data.toList == [49, 46, 48, 126, 120, 46, 57]) | none => true)) = true := by kernel_rfl
theorem rowN_ten {k : Nat} {y : ByteArray} (hy : rowN[k]? = some y) (h : k ≠ 10) : (y.toList == [49, 46, 48, 126, 120, 46, 57]) = false ∧ ([49, 46, 48, 126, 120, 46, 57] == y.toList) = false ∧ ¬ y.toList = [49, 46, 48, 126, 120, 46, 57] := by
  have hk : k < 15 := (List.getElem?_eq_some_iff.1 hy).1
  have h0 := checkT_all
  rw [List.all_eq_true] at h0
  have h0 := h0 k (List.mem_range.2 hk)
  rw [hy] at h0
  simp only [h, decide_false, Bool.false_or, Bool.not_eq_true', beq_eq_false_iff_ne] at h0
  have h1 : y.toList ≠ [49, 46, 48, 126, 120, 46, 57] := by rw [ByteArray.toList_eq]; exact h0
  exact ⟨beq_eq_false_iff_ne.2 h1, beq_eq_false_iff_ne.2 (fun e => h1 e.symm), h1⟩
theorem ten_at {k : Nat} {y : ByteArray} (hy : rowN[k]? = some y) (h : k = 10) : y.toList = [49, 46, 48, 126, 120, 46, 57] := by
  subst h
  injection hy with hy
  rw [← hy]
  exact ten_list
theorem rowN_size : ∀ (i : Nat) (x : ByteArray), rowN[i]? = some x → x.size ≤ 1000000 := by
  intro i x h
  have := List.mem_of_getElem? h
  simp only [rowN, List.mem_cons, List.not_mem_nil, or_false] at this
  rcases this with rfl | rfl | rfl | rfl | rfl | rfl | rfl | rfl | rfl | rfl | rfl | rfl | rfl | rfl | rfl <;> decide
def rowO : List ByteArray := [⟨#[]⟩, ⟨#[46]⟩, ⟨#[45, 45]⟩, ⟨#[0, 255]⟩, ⟨#[195, 169]⟩, ⟨#[32]⟩]
theorem rowO_facts : ∀ (j : Nat) (s : ByteArray), rowO[j]? = some s → s.size ≤ 2 ∧ parts s.data.toList = [] ∧ cmpB s ⟨#[]⟩ = 0 ∧ (s = ⟨#[]⟩ ∨ (s.data.toList ≠ [] ∧ cmpB (⟨#[49]⟩ ++ s ++ ⟨#[50]⟩) ⟨#[49, 46, 50]⟩ = 0)) := by
  intro j s h
  have := List.mem_of_getElem? h
  simp only [rowO, List.mem_cons, List.not_mem_nil, or_false] at this
  rcases this with rfl | rfl | rfl | rfl | rfl | rfl
  · exact ⟨by decide, by rfl, by rfl, .inl rfl⟩
  all_goals exact ⟨by decide, by rfl, by rfl, .inr ⟨by simp, by rfl⟩⟩
def nines : ByteArray := ⟨#[57, 57, 57, 57, 57, 57, 57, 57, 57, 57, 57, 57, 57, 57, 57, 57, 57, 57, 57, 57, 57, 57, 57, 57, 57, 57, 57, 57, 57, 57, 57, 57]⟩
theorem nines1 : cmpB nines (⟨#[49]⟩ ++ nines) = -1 := by rfl
theorem nines2 : cmpB (⟨#[48, 48, 48]⟩ ++ nines) nines = 0 := by rfl
def vee : ByteArray := ⟨#[118, 48, 49, 46, 48, 126, 98, 94, 90, 57]⟩
def wantN : List Pt := [(4, [118]), (5, [49]), (5, []), (1, []), (4, [98]), (3, []), (4, [90]), (5, [57])]
theorem vee_parts : parts vee.data.toList = wantN := by rfl
end Go.Proofs.YtmnmnbpecdofnaaDoor
