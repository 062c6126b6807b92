/-
  Plain facts for the laws of layer 2. Nothing of the program is named here. Conditions: as each theorem states.
-/
import Derived.Test.YtmnmnbpecdofnaaDoorSort02
namespace Go.Proofs.YtmnmnbpecdofnaaDoor
open Ver

theorem app_list (x y : ByteArray) : (x ++ y).data.toList = x.data.toList ++ y.data.toList := by simp [ByteArray.data_append]
theorem app_size (x y : ByteArray) : (x ++ y).size = x.size + y.size := ByteArray.size_append
theorem parts_dot (x y : List UInt8) : parts (x ++ 46 :: y) = parts x ++ parts y := by
  rw [parts_app_plain x 46 (by decide), parts_nothing 46 (by decide)]
theorem ahead_eq (p a b : ByteArray) : cmpB (p ++ ⟨#[46]⟩ ++ a) (p ++ ⟨#[46]⟩ ++ b) = cmpB a b := by
  unfold cmpB cmpV
  simp only [app_list]
  simp only [List.append_assoc, List.cons_append, List.nil_append]
  rw [parts_dot, parts_dot, cmp_ahead]
theorem parts_tail (x : List UInt8) : cmpP (parts x) (parts x ++ []) = cmpP (parts x) (parts x) := by rw [List.append_nil]
theorem behind1 (a b : ByteArray) : cmpB (a ++ ⟨#[46, 126]⟩ ++ b) a = -1 := by
  unfold cmpB cmpV
  simp only [app_list, List.append_assoc, List.cons_append, List.nil_append]
  rw [parts_dot, parts_one 126 (by decide)]
  conv => lhs; arg 2; rw [← List.append_nil (parts _)]
  rw [cmp_ahead]; rfl
theorem behind2 (a b : ByteArray) : cmpB a (a ++ ⟨#[46, 94]⟩ ++ b) = -1 := by
  unfold cmpB cmpV
  simp only [app_list, List.append_assoc, List.cons_append, List.nil_append]
  rw [parts_dot, parts_one 94 (by decide)]
  conv => lhs; arg 1; rw [← List.append_nil (parts _)]
  rw [cmp_ahead]; rfl
theorem behind3 (a b : ByteArray) : cmpB (a ++ ⟨#[46, 94]⟩ ++ b) (a ++ ⟨#[46, 122]⟩) = -1 := by
  unfold cmpB cmpV
  simp only [app_list, List.append_assoc, List.cons_append, List.nil_append]
  rw [parts_dot, parts_dot, cmp_ahead, parts_one 94 (by decide)]; rfl
theorem behind4 (a : ByteArray) : cmpB (a ++ ⟨#[46, 122, 122, 122]⟩) (a ++ ⟨#[46, 48]⟩) = -1 := by
  unfold cmpB cmpV
  simp only [app_list]
  rw [parts_dot, parts_dot, cmp_ahead]; rfl
theorem behind5 (a b : ByteArray) : cmpB (a ++ ⟨#[126]⟩ ++ b) a = -1 := by
  unfold cmpB cmpV
  simp only [app_list, List.append_assoc, List.cons_append, List.nil_append]
  rw [parts_app_plain _ 126 (by decide), parts_one 126 (by decide)]
  conv => lhs; arg 2; rw [← List.append_nil (parts _)]
  rw [cmp_ahead]; rfl
theorem behind6 (a b : ByteArray) : cmpB (a ++ ⟨#[94]⟩ ++ b) a = 1 := by
  unfold cmpB cmpV
  simp only [app_list, List.append_assoc, List.cons_append, List.nil_append]
  rw [parts_app_plain _ 94 (by decide), parts_one 94 (by decide)]
  conv => lhs; arg 2; rw [← List.append_nil (parts _)]
  rw [cmp_ahead]; rfl
theorem row_less (a b c : ByteArray) (h1 : cmpB a b ≤ 0) (h2 : cmpB b c ≤ 0) : cmpB a c ≤ 0 := cmp_order.le _ _ _ h1 h2
theorem row_turn (a b : ByteArray) : cmpB b a = - cmpB a b := cmp_order.turn _ _
theorem row_range (a b : ByteArray) : cmpB a b = -1 ∨ cmpB a b = 0 ∨ cmpB a b = 1 := cmp_range _ _
end Go.Proofs.YtmnmnbpecdofnaaDoor
