/-
  The walk over long of the laws of layer 2. Conditions: as each theorem states.
-/
import Derived.Test.YtmnmnbpecdofnaaDoorAwake02
namespace Go.Proofs.YtmnmnbpecdofnaaDoor
open Go.RowKit Ver

/-- What long lets by. -/
def Short (xs : List ByteArray) : Prop := xs.length ≤ 100 ∧ ∀ u ∈ xs, u.size ≤ 300
theorem short_no {xs : List ByteArray} {i : Nat} {u : ByteArray} (h : xs[i]? = some u) (hu : ¬ u.size ≤ 300) : ¬ Short xs := fun hs => hu (hs.2 u (List.mem_of_getElem? h))
theorem short_yes {xs : List ByteArray} (hl : xs.length ≤ 100) (h : ∀ u ∈ xs.take xs.length, u.size ≤ 300) : Short xs := ⟨hl, by rw [List.take_length] at h; exact h⟩

set_option maxRecDepth 100000 in
set_option maxHeartbeats 1000000 in
theorem long_walk (va : Value) (xs : List ByteArray) (w : World) (hx : xs.length < 140737488355328) (ha : StrS w va xs) :
    Calls Tryd.prog 16 #[va] w fun e w' => (e = .returned (.bool true) ∧ ¬ Short xs ∨ e = .returned (.bool false) ∧ Short xs) ∧ Kept (fun _ => False) w w' := by
  obtain ⟨a1, c1, rfl, h1⟩ := ha
  by_cases hl : xs.length ≤ 100
  · have n1 : ¬ ((100 : Int) < (xs.length : Int)) := by omega
    have H1 := Lib.hid h1
    have HL := Lib.hid hl
    clear h1 hl
    go_enter Tryd.func16, Tryd.ntmps16
    go_wp2_with fail
    go_loopw [3] (fun v3 wr => ∃ i : Nat, v3 = .int .i64 (i : Int) ∧ i ≤ xs.length ∧ (∀ u ∈ xs.take i, u.size ≤ 300) ∧ Kept (fun _ => False) w wr) (fun v3 _ => xs.length - (intOf v3).toNat)
    case atStart => exact ⟨0, rfl, Nat.zero_le _, by simp, Kept.refl _ _⟩
    case round =>
      obtain ⟨i, rfl, hi, ht, hk⟩ := hrel
      have HT := Lib.hid ht
      clear ht
      by_cases hlt : i < xs.length
      · obtain ⟨u, hu⟩ : ∃ u, xs[i]? = some u := ⟨_, List.getElem?_eq_getElem hlt⟩
        obtain ⟨p1, e1, g1, l1⟩ := H1.out i u hu
        have k1 := (hk.cell (p := p1.add i) (by rw [add_block]; exact l1) (fun h => h)).trans g1
        subst e1
        have HU := Lib.hid hu
        clear hu g1
        by_cases hut : u.size ≤ 300
        · have n2 : ¬ ((300 : Int) < (u.size : Int)) := by omega
          go_wp2_with fail
          go_roundw
          case rel =>
            refine ⟨i + 1, by go_num, by omega, fun z hz => ?_, hk⟩
            rw [List.take_add_one, HU.out] at hz
            rcases List.mem_append.1 hz with hz | hz
            · exact HT.out z hz
            · simp at hz; rw [hz]; exact hut
          case measure => simp [intOf]; omega
        · have n2 : (300 : Int) < (u.size : Int) := by omega
          have HN := Lib.hid (short_no HU.out hut)
          go_wp2_with fail
          go_ret
          exact ⟨.inl ⟨rfl, HN.out⟩, hk⟩
      · have e : i = xs.length := by omega
        subst e
        go_wp2_with fail
        go_ret
        exact ⟨.inr ⟨rfl, short_yes HL.out HT.out⟩, hk⟩
  · have n1 : (100 : Int) < (xs.length : Int) := by omega
    go_enter Tryd.func16, Tryd.ntmps16
    go_wp2_with fail
    go_ret
    exact ⟨.inl ⟨rfl, fun h => hl h.1⟩, Kept.refl _ _⟩
end Go.Proofs.YtmnmnbpecdofnaaDoor
