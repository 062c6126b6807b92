/-
  The law DepSpace at every argument. Conditions: as each theorem states.
-/
import Derived.Test.YtncononmlgmabaaDoorSpace06
import Derived.Test.YtncononmlgmabaaDoorSpace06c
import Derived.Test.YtncononmlgmabaaDoorSpace06d
import Derived.Deep.RegionWith
import Derived.Laws.Runes
import Derived.Laws.Strings3
namespace Go.Proofs.YtncononmlgmabaaDoor
open Go.RowKit Ver Evr Span Dep

theorem more_text (t : ByteArray) (k : Nat) (c : UInt8) : (((t.extract 0 k ++ ⟨#[c]⟩) ++ t.extract k t.size) : ByteArray).data.toList = t.data.toList.take k ++ c :: t.data.toList.drop k := by
  have h1 : (t.extract 0 k).data.toList = t.data.toList.take k := by rw [extract_list]; simp
  have h2 : (t.extract k t.size).data.toList = t.data.toList.drop k := by
    rw [extract_list]
    exact List.take_of_length_le (by rw [List.length_drop]; exact Nat.le_refl _)
  rw [ByteArray.data_append, ByteArray.data_append, Array.toList_append, Array.toList_append, h1, h2]
  simp
theorem depspace_walk {w0 : World} (hA : AllW w0) (nm : ByteArray) (o : Nat) (n : Int) (v r : ByteArray) (ho : o < 256) (i j : Int) (w : World) (hw : Kept (fun _ => False) w0 w) : Calls Tryd.prog 7 #[.agg #[.string nm, .int .u8 (o : Int), .int .i64 n, .string v, .string r], .int .i64 i, .int .i64 j] w fun e w' => e = .returned (.bool true) ∧ Kept (fun _ => False) w w' := by
  have tr := fun W (hk : Kept (fun _ => False) w W) => hw.trans hk (fun _ _ h => h)
  have hAw := fun W hk => awake6_walk hA W (tr W hk)
  by_cases hl : small nm v r
  · have hLg := fun W (_ : Kept (fun _ => False) w W) => long6_no (o := o) (n := n) hl W
    obtain ⟨l1, l2, l3⟩ := hl
    have hS := fun W hk => showp_walk hA.lib hA.no nm o ho n v r (by omega) (by omega) (by omega) W (tr W hk)
    cases hm : mayD (dD nm o n v r) with
    | false =>
      rw [show showRD nm o n v r = .tuple #[.string ⟨#[]⟩, .int .i64 4] by unfold showRD; rw [hm]; rfl] at hS
      exact depspace_no nm o n v r i j w hAw hLg hS
    | true =>
      obtain ⟨t, ht⟩ : ∃ t : ByteArray, t = ⟨(showD (dD nm o n v r)).toArray⟩ := ⟨_, rfl⟩
      have htl : t.data.toList = showD (dD nm o n v r) := by rw [ht]
      have hts : t.size ≤ 1000 := by
        have : t.data.toList.length = t.size := rfl
        rw [← this, htl]; exact show_len hm
      rw [show showRD nm o n v r = .tuple #[.string t, .int .i64 0] by unfold showRD; rw [if_pos hm, ht]] at hS
      have hu : 0 ≤ IntKind.u64.wrap i ∧ 0 ≤ IntKind.u64.wrap j := by
        rw [IntKind.wrap_u64, IntKind.wrap_u64]
        omega
      have hk0 : 0 ≤ (IntKind.u64.wrap i).tmod ((t.size : Int) + 1) := Int.tmod_nonneg _ hu.1
      have hk1 : (IntKind.u64.wrap i).tmod ((t.size : Int) + 1) < (t.size : Int) + 1 := Int.tmod_lt_of_pos _ (by omega)
      obtain ⟨k, ek⟩ := Int.eq_ofNat_of_zero_le hk0
      have hP : ∀ c : UInt8, (c = 32 ∨ okT c = false) → ∀ W, Kept (fun _ => False) w W → Calls Tryd.prog 9 #[.string ((t.extract 0 k ++ ⟨#[c]⟩) ++ t.extract k t.size)] W fun e w' => e = .returned (.tuple #[.agg #[.string ⟨#[]⟩, .int .u8 0, .int .i64 0, .string ⟨#[]⟩, .string ⟨#[]⟩], .int .i64 4]) ∧ Kept (fun _ => False) W w' := fun c hc W hk => by
        have hsz : ((t.extract 0 k ++ ⟨#[c]⟩) ++ t.extract k t.size : ByteArray).size ≤ 1000000 := by
          rw [ByteArray.size_append, ByteArray.size_append, ByteArray.size_extract, ByteArray.size_extract]
          show _ + 1 + _ ≤ 1000000
          omega
        have h := parsep_walk hA.lib hA.no _ hsz W (tr W hk)
        rw [more_text, htl, parse_more hm k c hc] at h
        exact h
      have hj0 : 0 ≤ (IntKind.u64.wrap j).tmod 6 := Int.tmod_nonneg _ hu.2
      have hj1 : (IntKind.u64.wrap j).tmod 6 < 6 := Int.tmod_lt_of_pos _ (by omega)
      have hjj : (IntKind.u64.wrap j).tmod 6 = 0 ∨ (IntKind.u64.wrap j).tmod 6 = 1 ∨ (IntKind.u64.wrap j).tmod 6 = 2 ∨ (IntKind.u64.wrap j).tmod 6 = 3 ∨ (IntKind.u64.wrap j).tmod 6 = 4 ∨ (IntKind.u64.wrap j).tmod 6 = 5 := by omega
      rcases hjj with e | e | e | e | e | e
      · exact depspace_yes0 nm o n v r i j w hAw hLg t hts k (by omega) ek e hS (hP 32 (.inl rfl))
      · exact depspace_yes1 nm o n v r i j w hAw hLg t hts k (by omega) ek e hS (hP 40 (.inr (by decide)))
      · exact depspace_yes2 nm o n v r i j w hAw hLg t hts k (by omega) ek e hS (hP 41 (.inr (by decide)))
      · exact depspace_yes3 nm o n v r i j w hAw hLg t hts k (by omega) ek e hS (hP 44 (.inr (by decide)))
      · exact depspace_yes4 nm o n v r i j w hAw hLg t hts k (by omega) ek e hS (hP 33 (.inr (by decide)))
      · exact depspace_yes5 nm o n v r i j w hAw hLg t hts k (by omega) ek e hS (hP 42 (.inr (by decide)))
  · exact depspace_long nm o n v r i j w hAw (fun W _ => long6_yes hl W)
end Go.Proofs.YtncononmlgmabaaDoor
