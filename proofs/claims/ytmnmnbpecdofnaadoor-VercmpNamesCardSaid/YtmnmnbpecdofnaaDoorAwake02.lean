/-
  The walks over awake and long of the laws of layer 2. Conditions: as each theorem states.
-/
import Derived.Test.YtmnmnbpecdofnaaDoorFace02
namespace Go.Proofs.YtmnmnbpecdofnaaDoor
open Go.RowKit Ver

def rowA : List ByteArray := [⟨#[49, 126, 114, 99]⟩, ⟨#[49]⟩, ⟨#[49, 94, 112, 111, 115, 116]⟩, ⟨#[49, 46, 97]⟩, ⟨#[49, 46, 48]⟩]
theorem rowA_less : ∀ i x y, rowA[i]? = some x → rowA[i + 1]? = some y → cmpB x y = -1 ∧ cmpB y x = 1
  | 0, _, _, hx, hy => by injection hx with hx; injection hy with hy; subst hx; subst hy; exact ⟨by rfl, by rfl⟩
  | 1, _, _, hx, hy => by injection hx with hx; injection hy with hy; subst hx; subst hy; exact ⟨by rfl, by rfl⟩
  | 2, _, _, hx, hy => by injection hx with hx; injection hy with hy; subst hx; subst hy; exact ⟨by rfl, by rfl⟩
  | 3, _, _, hx, hy => by injection hx with hx; injection hy with hy; subst hx; subst hy; exact ⟨by rfl, by rfl⟩
  | i + 4, _, _, hx, hy => by simp [rowA] at hy
theorem rowA_size : ∀ (i : Nat) (x : ByteArray), rowA[i]? = some x → x.size ≤ 1000000 := by
  intro i x h
  have := List.mem_of_getElem? h
  simp only [rowA, List.mem_cons, List.not_mem_nil, or_false] at this
  rcases this with rfl | rfl | rfl | rfl | rfl <;> decide
def rowB : List ByteArray := [⟨#[50]⟩, ⟨#[49, 95, 48]⟩, ⟨#[49, 46, 48]⟩]
def rowC : List ByteArray := [⟨#[49, 95, 48]⟩, ⟨#[49, 46, 48]⟩, ⟨#[50]⟩]
theorem rowB_sort : Row.sort cmpB rowB = rowC := by rfl

theorem cmp_lit (hC : CompareK) (a b : ByteArray) (r : Int) (ha : a.size ≤ 1000000) (hb : b.size ≤ 1000000) (h : cmpB a b = r) (w : World) :
    Calls Tryd.prog 14 #[.string a, .string b] w fun e w' => e = .returned (.int .i64 r) ∧ Kept (fun _ => False) w w' := by
  subst h
  exact hC a b w ha hb
theorem rowB_size : ∀ u ∈ rowB, u.size ≤ 1000000 := by
  intro u hu
  simp only [rowB, List.mem_cons, List.not_mem_nil, or_false] at hu
  rcases hu with rfl | rfl | rfl <;> decide

set_option maxRecDepth 100000 in
set_option maxHeartbeats 1000000 in
theorem awake_walk (hC : CompareK) (hS : SortK) (w : World) :
    Calls Tryd.prog 11 #[] w fun e w' => e = .returned (.bool true) ∧ Kept (fun _ => False) w w' := by
  go_enter Tryd.func11, Tryd.ntmps11
  go_wp2_with fail
  go_loopw [2] (fun v2 wr => ∃ i : Nat, v2 = .int .i64 (i : Int) ∧ i ≤ 4 ∧ Kept (fun _ => False) w wr ∧ ∀ j x, rowA[j]? = some x → wr.cell? ⟨w.heap.size, j, none⟩ = some (.string x) ∧ w.heap.size < wr.heap.size) (fun v2 _ => 4 - (intOf v2).toNat)
  case atStart =>
    refine ⟨0, rfl, Nat.zero_le _, (Kept.refl _ _).alloc _, fun j x hj => ⟨?_, by simp⟩⟩
    rw [(Box.made w _ _).cell]
    have e := congrArg (Option.map Value.string) hj
    rw [← List.getElem?_map] at e
    exact (Array.getElem?_toList).symm.trans e
  case round =>
    obtain ⟨i, rfl, hi, hk, hrow⟩ := hrel
    by_cases h4 : i < 4
    · obtain ⟨x, hx⟩ : ∃ x, rowA[i]? = some x := ⟨_, List.getElem?_eq_getElem (by simp [rowA]; omega)⟩
      obtain ⟨y, hy⟩ : ∃ y, rowA[i + 1]? = some y := ⟨_, List.getElem?_eq_getElem (by simp [rowA]; omega)⟩
      obtain ⟨k1, hsz⟩ := hrow i x hx
      obtain ⟨k2, _⟩ := hrow (i + 1) y hy
      obtain ⟨f1, f2⟩ := rowA_less i x y hx hy
      have s1 := rowA_size i x hx
      have s2 := rowA_size (i + 1) y hy
      have C1 := fun w => hC x y w s1 s2
      have C2 := fun w => hC y x w s2 s1
      have HR := Lib.hid hrow
      clear hrow hx hy
      have b1 : (cmpB x y != -1) = false := by rw [f1]; rfl
      have b2 : (cmpB y x != 1) = false := by rw [f2]; rfl
      have hi1 : (i : Int) < 5 := by omega
      have hi2 : (i : Int) + 1 < 5 := by omega
      have hi0 : (0 : Int) ≤ (i : Int) := by omega
      have hi3 : (0 : Int) ≤ (i : Int) + 1 := by omega
      have hwm : IntKind.i64.wrap ((i : Int) + 1) = (i : Int) + 1 := IntWalk.i64_in _ ⟨by omega, by omega⟩
      go_wp2_with fail
      go_region_held3 (fun w' => w'.cell? ⟨w.heap.size, i, none⟩ = some (.string x) ∧ w'.cell? ⟨w.heap.size, i + 1, none⟩ = some (.string y))
        (first | go_keep | exact ⟨k1, k2⟩)
        (first
          | (go_at_call 14
             with_reducible refine (C1 _).mono ?_
             rintro e w4 ⟨rfl, hk4⟩
             have hkx := hk4
             have hszx : w.heap.size < w4.heap.size := Nat.lt_of_lt_of_le hsz hk4.size
             have k1 : w4.cell? ⟨w.heap.size, i, none⟩ = some (.string x) := (hk4.cell (p := ⟨w.heap.size, i, none⟩) hsz (fun h => h)).trans k1
             have k2 : w4.cell? ⟨w.heap.size, i + 1, none⟩ = some (.string y) := (hk4.cell (p := ⟨w.heap.size, i + 1, none⟩) hsz (fun h => h)).trans k2)
          | (go_at_call 14
             with_reducible refine (C2 _).mono ?_
             rintro e w5 ⟨rfl, hk5⟩
             have k1 : w5.cell? ⟨w.heap.size, i, none⟩ = some (.string x) := (hk5.cell (p := ⟨w.heap.size, i, none⟩) hszx (fun h => h)).trans k1
             have k2 : w5.cell? ⟨w.heap.size, i + 1, none⟩ = some (.string y) := (hk5.cell (p := ⟨w.heap.size, i + 1, none⟩) hszx (fun h => h)).trans k2))
      go_wp2_with fail
      go_roundw
      case rel =>
        refine ⟨i + 1, by go_num, by omega, (hk.drew.trans hkx (fun _ _ h => h)).trans hk5 (fun _ _ h => h), fun j z hj => ?_⟩
        have h0 := HR.out j z hj
        have e1 := (hkx.cell (p := ⟨w.heap.size, j, none⟩) hsz (fun h => h))
        have e2 := (hk5.cell (p := ⟨w.heap.size, j, none⟩) hszx (fun h => h))
        exact ⟨(e2.trans e1).trans h0.1, Nat.lt_of_lt_of_le hszx hk5.size⟩
      case measure => simp [intOf]; omega
    · have e4 : i = 4 := by omega
      subst e4
      clear hrow
      have D1 := cmp_lit hC ⟨#[49, 46, 48]⟩ ⟨#[49, 95, 48]⟩ 0 (by decide) (by decide) (by rfl)
      have D2 := cmp_lit hC ⟨#[49, 46, 48]⟩ ⟨#[48, 49, 46, 48, 48]⟩ 0 (by decide) (by decide) (by rfl)
      have D3 := cmp_lit hC ⟨#[49, 48]⟩ ⟨#[57]⟩ 1 (by decide) (by decide) (by rfl)
      have D4 := cmp_lit hC ⟨#[49, 46, 98]⟩ ⟨#[49, 46, 97]⟩ 1 (by decide) (by decide) (by rfl)
      have D5 := cmp_lit hC ⟨#[49, 46, 48, 97]⟩ ⟨#[49, 46, 48]⟩ 1 (by decide) (by decide) (by rfl)
      go_wp2_with (first
        | (go_at_call 14; (first | (with_reducible refine (D1 _).mono ?_) | (with_reducible refine (D2 _).mono ?_) | (with_reducible refine (D3 _).mono ?_) | (with_reducible refine (D4 _).mono ?_) | (with_reducible refine (D5 _).mono ?_)); rintro e w4 ⟨rfl, hk4⟩; have hk := hk.trans hk4 (fun _ _ h => h); clear hk4)
        | fail)
      refine (hS _ rowB _ (by decide) rowB_size (lit_strs _ 9 rowB)).mono ?_
      rintro e w5 ⟨v, rfl, hn, hk5⟩
      rw [rowB_sort] at hn
      have hk6 := (hk.alloc (.cells #[.string ⟨#[50]⟩, .string ⟨#[49, 95, 48]⟩, .string ⟨#[49, 46, 48]⟩] 9)).trans hk5 (fun _ _ h => h)
      have hn2 := (hn.kept ((Kept.refl (fun _ => False) w5).alloc (.cells #[.string ⟨#[49, 95, 48]⟩, .string ⟨#[49, 46, 48]⟩, .string ⟨#[50]⟩] 9)) (fun _ _ h => h)).strs
      have HT := texts_walk v _ rowC rowC _ (by decide) hn2 (lit_strs w5 9 rowC)
      obtain ⟨a, c, rfl⟩ := hn.form
      clear hn hn2
      go_wp2_with fail
      refine HT.mono ?_
      rintro e w7 ⟨rfl, hk7⟩
      go_wp2_with fail
      go_ret
      exact ⟨rfl, (hk6.alloc _).trans hk7 (fun _ _ h => h)⟩
end Go.Proofs.YtmnmnbpecdofnaaDoor
