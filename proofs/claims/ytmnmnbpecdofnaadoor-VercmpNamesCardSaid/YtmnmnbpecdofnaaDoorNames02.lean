/-
  The walk over the law VercmpNames. Conditions: as each theorem states.
-/
import Derived.Test.YtmnmnbpecdofnaaDoorMathNames02
import Derived.Test.YtmnmnbpecdofnaaDoorAwake02
import Derived.Test.YtmnmnbpecdofnaaDoorClass
namespace Go.Proofs.YtmnmnbpecdofnaaDoor
open Go.RowKit Ver BigFrame

theorem beq_ne {x y : ByteArray} (h : x ≠ y) : (x.toList == y.toList) = false := by
  rw [ByteArray.toList_eq, ByteArray.toList_eq, beq_eq_false_iff_ne]
  exact fun e => h (Go.WideShapes.bytes_inj e)

set_option maxRecDepth 100000 in
set_option maxHeartbeats 4000000 in
theorem names_walk (hP : PartsK) (hC : CompareK) (hS : SortK) (w : World) :
    Calls Tryd.prog 5 #[] w fun e w' => e = .returned (.bool true) ∧ Kept (fun _ => False) w w' := by
  go_enter Tryd.func5, Tryd.ntmps5
  go_wp2_with fail
  go_loopw [2] (fun v2 wr => ∃ i : Nat, v2 = .int .i64 (i : Int) ∧ i ≤ 15 ∧ Kept (fun _ => False) w wr ∧ ∀ (j : Nat) (x : ByteArray), rowN[j]? = some x → wr.cell? ⟨w.heap.size, j, none⟩ = some (.string x) ∧ w.heap.size < wr.heap.size) (fun v2 _ => 15 - (intOf v2).toNat)
  case atStart =>
    refine ⟨0, rfl, Nat.zero_le _, (Kept.refl _ _).alloc _, fun j x hj => ⟨?_, by simp⟩⟩
    rw [(Box.made w _ _).cell]
    have e := congrArg (Option.map Value.string) hj
    rw [← List.getElem?_map] at e
    exact (Array.getElem?_toList).symm.trans e
  case round =>
    obtain ⟨i, rfl, hi, hk, hrow⟩ := hrel
    rename World => W
    have HR := Lib.hid hrow
    have HK := Lib.hid hk
    clear hrow hk
    by_cases hi15 : i < 15
    · have hiI : (i : Int) < 15 := by omega
      obtain ⟨x, hx⟩ : ∃ x, rowN[i]? = some x := ⟨_, List.getElem?_eq_getElem (by simpa [rowN] using hi15)⟩
      have HX := Lib.hid hx
      clear hx
      have hwi : IntKind.i64.wrap ((i : Int) + 1) = (i : Int) + 1 := IntWalk.i64_in _ ⟨by omega, by omega⟩
      go_wp2_with fail
      go_loopw [3] (fun v3 wr => ∃ k : Nat, v3 = .int .i64 (k : Int) ∧ i < k ∧ k ≤ 15 ∧ Kept (fun _ => False) W wr) (fun v3 _ => 15 - (intOf v3).toNat)
      case atStart => exact ⟨i + 1, by go_num, by omega, by omega, Kept.refl _ _⟩
      case round =>
        obtain ⟨k, rfl, hik, hk15, hkx⟩ := hrel
        by_cases hkl : k < 15
        · obtain ⟨y, hy⟩ : ∃ y, rowN[k]? = some y := ⟨_, List.getElem?_eq_getElem (by simpa [rowN] using hkl)⟩
          have s1 := rowN_size i x HX.out
          have s2 := rowN_size k y hy
          have C1 := fun w => hC x y w s1 s2
          have hkI : (k : Int) < 15 := by omega
          have hi0 : (0 : Int) ≤ (i : Int) := by omega
          have hk0 : (0 : Int) ≤ (k : Int) := by omega
          obtain ⟨k1, hszW⟩ := HR.out i x HX.out
          obtain ⟨k2, _⟩ := HR.out k y hy
          have k1 := (hkx.cell (p := ⟨w.heap.size, i, none⟩) hszW (fun h => h)).trans k1
          have k2 := (hkx.cell (p := ⟨w.heap.size, k, none⟩) hszW (fun h => h)).trans k2
          have hsz : w.heap.size < wr.heap.size := Nat.lt_of_lt_of_le hszW hkx.size
          have HY := Lib.hid hy
          clear hy hszW
          by_cases hi9 : i = 9
          · subst hi9
            by_cases hk11 : k = 11
            · subst hk11
              obtain rfl : x = ⟨#[49, 46, 48]⟩ := by have h := HX.out; injection h with h; exact h.symm
              obtain rfl : y = ⟨#[49, 46, 48]⟩ := by have h := HY.out; injection h with h; exact h.symm
              have hc : cmpB ⟨#[49, 46, 48]⟩ ⟨#[49, 46, 48]⟩ = 0 := by rfl
              rw [hc] at C1
              go_wp2_with fail
              go_quiet (fail)
              go_wp2_with fail
              have HKQ := Lib.hid (hkx.drewN nq)
              obtain ⟨T, F, t0, ht0, hFk, hFs⟩ := class_of (wr.drewN nq)
              have kk1 : ∀ t, (F t).cell? ⟨w.heap.size, 9, none⟩ = some (.string ⟨#[49, 46, 48]⟩) := fun t => ((hFk t).cell (p := ⟨w.heap.size, 9, none⟩) hsz (fun h => h)).trans k1
              have kk2 : ∀ t, (F t).cell? ⟨w.heap.size, 11, none⟩ = some (.string ⟨#[49, 46, 48]⟩) := fun t => ((hFk t).cell (p := ⟨w.heap.size, 11, none⟩) hsz (fun h => h)).trans k2
              have HFK := Lib.hid hFk
              have HFS := Lib.hid hFs
              clear hkx hFk hFs
              have hne : Nonempty T := ⟨t0⟩
              refine wp_region_class F t0 ht0 (by kernel_rfl) (by kernel_rfl) ?_
              repeat (go_big_quiet_step (exact class_call HFS.out (C1 _)))
              refine wpQuiet_nil ?_
              rintro _ ⟨tz, rfl⟩
              have hkz := HKQ.out.trans (HFK.out tz) (fun _ _ h => h)
              go_wp2_with fail
              go_roundw
              case rel => exact ⟨11 + 1, by go_num, by omega, by omega, hkz⟩
              case measure => first | (simp [intOf]; done) | (simp [intOf]; omega)
            · have hb11 : ((k : Int) == 11) = false := by first | (simp; done) | (simp; omega)
              by_cases hk10 : k = 10
              · subst hk10
                obtain rfl : x = ⟨#[49, 46, 48]⟩ := by have h := HX.out; injection h with h; exact h.symm
                obtain rfl : y = ⟨#[49, 46, 48, 126, 120, 46, 57]⟩ := by have h := HY.out; injection h with h; exact h.symm
                go_wp2_with fail
                go_quiet (fail)
                go_wp2_with fail
                go_roundw
                case rel => exact ⟨10 + 1, by go_num, by omega, by omega, hkx.drewN _⟩
                case measure => first | (simp [intOf]; done) | (simp [intOf]; omega)
              · obtain ⟨d1, d2, d3, d4⟩ := rowN_far HX.out HY.out hik (by omega) (by omega) (by omega)
                have b1 := beq_ne d1
                have b2 := beq_ne d2
                have b3 := beq_ne d3
                obtain ⟨b4, _, b6⟩ := rowN_ten HX.out (by omega)
                obtain ⟨b5, _, _⟩ := rowN_ten HY.out (by omega)
                clear b2 b3
                rw [d4] at C1
                clear d1 d2 d3 d4
                go_wp2_with fail
                go_quiet (fail)
                go_wp2_with fail
                have HKQ := Lib.hid (hkx.drewN nq)
                obtain ⟨T, F, t0, ht0, hFk, hFs⟩ := class_of (wr.drewN nq)
                have kk1 : ∀ t, (F t).cell? ⟨w.heap.size, 9, none⟩ = some (.string x) := fun t => ((hFk t).cell (p := ⟨w.heap.size, 9, none⟩) hsz (fun h => h)).trans k1
                have kk2 : ∀ t, (F t).cell? ⟨w.heap.size, k, none⟩ = some (.string y) := fun t => ((hFk t).cell (p := ⟨w.heap.size, k, none⟩) hsz (fun h => h)).trans k2
                have HFK := Lib.hid hFk
                have HFS := Lib.hid hFs
                clear hkx hFk hFs
                have hne : Nonempty T := ⟨t0⟩
                refine wp_region_class F t0 ht0 (by kernel_rfl) (by kernel_rfl) ?_
                repeat (go_big_quiet_step (exact class_call HFS.out (C1 _)))
                refine wpQuiet_nil ?_
                rintro _ ⟨tz, rfl⟩
                have hkz := HKQ.out.trans (HFK.out tz) (fun _ _ h => h)
                go_wp2_with fail
                go_roundw
                case rel => exact ⟨k + 1, by go_num, by omega, by omega, hkz⟩
                case measure => first | (simp [intOf]; done) | (simp [intOf]; omega)
          · have hb9 : ((i : Int) == 9) = false := by simp; omega
            by_cases hi10 : i = 10
            · subst hi10
              have b4 := ten_at HX.out rfl
              obtain ⟨b5, b6, _⟩ := rowN_ten HY.out (by omega)
              go_wp2_with fail
              go_quiet (fail)
              go_wp2_with fail
              go_roundw
              case rel => exact ⟨k + 1, by go_num, by omega, by omega, hkx.drewN _⟩
              case measure => first | (simp [intOf]; done) | (simp [intOf]; omega)
            · by_cases hk10 : k = 10
              · subst hk10
                have b5 := ten_at HY.out rfl
                obtain ⟨b4, b6, b7⟩ := rowN_ten HX.out (by omega)
                go_wp2_with fail
                go_quiet (fail)
                go_wp2_with fail
                go_roundw
                case rel => exact ⟨10 + 1, by go_num, by omega, by omega, hkx.drewN _⟩
                case measure => first | (simp [intOf]; done) | (simp [intOf]; omega)
              · obtain ⟨d1, d2, d3, d4⟩ := rowN_far HX.out HY.out hik (by omega) (by omega) (by omega)
                have b1 := beq_ne d1
                have b2 := beq_ne d2
                have b3 := beq_ne d3
                obtain ⟨b4, _, b6⟩ := rowN_ten HX.out (by omega)
                obtain ⟨b5, _, _⟩ := rowN_ten HY.out (by omega)
                clear b2 b3
                rw [d4] at C1
                clear d1 d2 d3 d4
                go_wp2_with fail
                go_quiet (fail)
                go_wp2_with fail
                have HKQ := Lib.hid (hkx.drewN nq)
                obtain ⟨T, F, t0, ht0, hFk, hFs⟩ := class_of (wr.drewN nq)
                have kk1 : ∀ t, (F t).cell? ⟨w.heap.size, i, none⟩ = some (.string x) := fun t => ((hFk t).cell (p := ⟨w.heap.size, i, none⟩) hsz (fun h => h)).trans k1
                have kk2 : ∀ t, (F t).cell? ⟨w.heap.size, k, none⟩ = some (.string y) := fun t => ((hFk t).cell (p := ⟨w.heap.size, k, none⟩) hsz (fun h => h)).trans k2
                have HFK := Lib.hid hFk
                have HFS := Lib.hid hFs
                clear hkx hFk hFs
                have hne : Nonempty T := ⟨t0⟩
                refine wp_region_class F t0 ht0 (by kernel_rfl) (by kernel_rfl) ?_
                repeat (go_big_quiet_step (exact class_call HFS.out (C1 _)))
                refine wpQuiet_nil ?_
                rintro _ ⟨tz, rfl⟩
                have hkz := HKQ.out.trans (HFK.out tz) (fun _ _ h => h)
                go_wp2_with fail
                go_roundw
                case rel => exact ⟨k + 1, by go_num, by omega, by omega, hkz⟩
                case measure => first | (simp [intOf]; done) | (simp [intOf]; omega)
        · have hk15 : k = 15 := by omega
          subst hk15
          go_wp2_with fail
          go_roundw
          case rel =>
            refine ⟨i + 1, by go_num, by omega, HK.out.trans hkx (fun _ _ h => h), fun j z hj => ?_⟩
            obtain ⟨g0, g1⟩ := HR.out j z hj
            exact ⟨(hkx.cell (p := ⟨w.heap.size, j, none⟩) g1 (fun h => h)).trans g0, Nat.lt_of_lt_of_le g1 hkx.size⟩
          case measure => first | (simp [intOf]; done) | (simp [intOf]; omega)
    · have hi15' : i = 15 := by omega
      subst hi15'
      clear HR
      have hk := HK.out
      have C1 := cmp_lit hC nines (⟨#[49]⟩ ++ nines) _ (by decide) (by decide) nines1
      have C2 := cmp_lit hC (⟨#[48, 48, 48]⟩ ++ nines) nines _ (by decide) (by decide) nines2
      have C3 := cmp_lit hC sTen ⟨#[49, 46, 48]⟩ (-1) (by decide) (by decide) (by rfl)
      have C4 := cmp_lit hC sTen ⟨#[49, 46, 98]⟩ 1 (by decide) (by decide) (by rfl)
      unfold nines at C1 C2
      unfold sTen at C3 C4
      go_wp2_with (first
        | (go_at_call 14; (first | (with_reducible refine (C1 _).mono ?_) | (with_reducible refine (C2 _).mono ?_) | (with_reducible refine (C3 _).mono ?_) | (with_reducible refine (C4 _).mono ?_)); rintro e w9 ⟨rfl, hk1⟩; have hk := hk.trans hk1 (fun _ _ h => h); clear hk1)
        | fail)
      rename World => V
      have HK2 := Lib.hid hk
      clear hk C1 C2 C3 C4 HK
      go_loopw [105] (fun v105 wr => ∃ j : Nat, v105 = .int .i64 (j : Int) ∧ j ≤ 6 ∧ Kept (fun _ => False) V wr ∧ ∀ (j : Nat) (x : ByteArray), rowO[j]? = some x → wr.cell? ⟨V.heap.size, j, none⟩ = some (.string x) ∧ V.heap.size < wr.heap.size) (fun v105 _ => 6 - (intOf v105).toNat)
      case atStart =>
        refine ⟨0, rfl, Nat.zero_le _, (Kept.refl _ _).alloc _, fun j x hj => ⟨?_, by simp⟩⟩
        rw [(Box.made V _ _).cell]
        have e := congrArg (Option.map Value.string) hj
        rw [← List.getElem?_map] at e
        exact (Array.getElem?_toList).symm.trans e
      case round =>
        obtain ⟨j, rfl, hj, hk, hrow⟩ := hrel
        rename World => U
        by_cases hj6 : j < 6
        · have hjI : (j : Int) < 6 := by omega
          have hj0 : (0 : Int) ≤ (j : Int) := by omega
          obtain ⟨s, hs⟩ : ∃ s, rowO[j]? = some s := ⟨_, List.getElem?_eq_getElem (by simpa [rowO] using hj6)⟩
          obtain ⟨f1, f2, f3, f4⟩ := rowO_facts j s hs
          obtain ⟨k1, _⟩ := hrow j s hs
          have HR := Lib.hid hrow
          have HU := Lib.hid hk
          have P1 := fun w => hP s w (by omega)
          rw [f2] at P1
          have D1 := cmp_lit hC s ⟨#[]⟩ 0 (by omega) (by decide) f3
          have hk := Kept.refl (fun _ => False) U
          have fin : ∀ w9, Kept (fun _ => False) U w9 → j < 6 → Kept (fun _ => False) V w9 ∧ ∀ (j : Nat) (x : ByteArray), rowO[j]? = some x → w9.cell? ⟨V.heap.size, j, none⟩ = some (.string x) ∧ V.heap.size < w9.heap.size := fun w9 h9 _ =>
            ⟨HU.out.trans h9 (fun _ _ h => h), fun j x hj => ⟨(h9.cell (p := ⟨V.heap.size, j, none⟩) (HR.out j x hj).2 (fun h => h)).trans (HR.out j x hj).1, Nat.lt_of_lt_of_le (HR.out j x hj).2 h9.size⟩⟩
          have FIN := Lib.hid fin
          clear fin hrow hs f2 f3
          rcases f4 with rfl | ⟨f4, f5⟩
          · have D2 := cmp_lit hC (⟨#[49]⟩ ++ ⟨#[]⟩ ++ ⟨#[50]⟩) ⟨#[49, 46, 50]⟩ 1 (by decide) (by decide) (by rfl)
            go_wp2_with (first
              | (go_at_call 12; with_reducible refine (P1 _).mono ?_; rintro e w9 ⟨v9, rfl, hn9, hk1⟩; have hk := hk.trans hk1 (fun _ _ h => h); clear hk1; obtain ⟨a9, c9, e9⟩ := hn9.form; subst e9; clear hn9)
              | (go_at_call 14; (first | (with_reducible refine (D1 _).mono ?_) | (with_reducible refine (D2 _).mono ?_)); rintro e w9 ⟨rfl, hk1⟩; have hk := hk.trans hk1 (fun _ _ h => h); clear hk1)
              | fail)
            go_roundw
            case rel => exact ⟨j + 1, by go_num, by omega, FIN.out _ hk hj6⟩
            case measure => simp [intOf]; omega
          · have D2 := cmp_lit hC (⟨#[49]⟩ ++ s ++ ⟨#[50]⟩) ⟨#[49, 46, 50]⟩ 0 (by simp only [app_size]; show 1 + s.size + 1 ≤ _; omega) (by decide) f5
            go_wp2_with (first
              | (go_at_call 12; with_reducible refine (P1 _).mono ?_; rintro e w9 ⟨v9, rfl, hn9, hk1⟩; have hk := hk.trans hk1 (fun _ _ h => h); clear hk1; obtain ⟨a9, c9, e9⟩ := hn9.form; subst e9; clear hn9)
              | (go_at_call 14; (first | (with_reducible refine (D1 _).mono ?_) | (with_reducible refine (D2 _).mono ?_)); rintro e w9 ⟨rfl, hk1⟩; have hk := hk.trans hk1 (fun _ _ h => h); clear hk1)
              | fail)
            go_roundw
            case rel => exact ⟨j + 1, by go_num, by omega, FIN.out _ hk hj6⟩
            case measure => simp [intOf]; omega
        · have hjI : ¬ (j : Int) < 6 := by omega
          clear hrow
          have HK3 := Lib.hid (HK2.out.trans hk (fun _ _ h => h))
          have P2 := fun w => hP vee w (by decide)
          rw [vee_parts] at P2
          unfold vee at P2
          clear hk HK2
          go_wp2_with (first
            | (go_at_call 12; with_reducible refine (P2 _).mono ?_; rintro e w9 ⟨v9, rfl, hn9, hk1⟩; have HN := Lib.hid hn9; obtain ⟨a9, c9, e9⟩ := hn9.form; subst e9; clear hn9)
            | fail)
          rename World => Z
          have HK4 := Lib.hid (HK3.out.trans hk1 (fun _ _ h => h))
          have hwl : wantN.length = 8 := rfl
          clear hk1 HK3 P2
          go_loopw [10] (fun v10 wr => ∃ i : Nat, v10 = .int .i64 (i : Int) ∧ i ≤ wantN.length ∧ Kept (fun _ => False) Z wr ∧ ∀ (j : Nat) (u : Value), (cellsP wantN)[j]? = some u → wr.cell? ⟨Z.heap.size, j, none⟩ = some u ∧ Z.heap.size < wr.heap.size) (fun v10 _ => wantN.length - (intOf v10).toNat)
          case atStart =>
            refine ⟨0, rfl, Nat.zero_le _, (Kept.refl _ _).alloc _, fun j u hj => ⟨?_, by simp⟩⟩
            rw [(Box.made Z _ _).cell]
            exact (Array.getElem?_toList).symm.trans hj
          case round =>
            obtain ⟨i, rfl, hi, hk, hrow⟩ := hrel
            by_cases hi8 : i < wantN.length
            · have hiI : (i : Int) < (wantN.length : Int) := by omega
              have hiJ : (i : Int) < 8 := by omega
              have hi0 : (0 : Int) ≤ (i : Int) := by omega
              obtain ⟨g1, e1, l1, k1, t1⟩ := (HN.out.kept hk (fun _ _ h => h)).at hi8
              obtain ⟨q1, q2⟩ := cellsP_at wantN i hi8
              obtain ⟨k2, l2⟩ := hrow _ _ q1
              obtain ⟨t2, _⟩ := hrow _ _ q2
              subst e1
              have HR := Lib.hid hrow
              have HWL := Lib.hid hwl
              clear hrow q1 q2 hwl
              go_wp2_with fail
              go_quiet (fail)
              go_wp2_with fail
              go_roundw
              case rel => exact ⟨i + 1, by go_num, by omega, hk.drewN _, HR.out⟩
              case measure => simp [intOf]; omega
            · have hiI : ¬ (i : Int) < (wantN.length : Int) := by omega
              clear hrow
              have hk := HK4.out.trans hk (fun _ _ h => h)
              have C1 := cmp_lit hC ⟨#[90]⟩ ⟨#[97]⟩ (-1) (by decide) (by decide) (by rfl)
              have S1 := fun w => hS (.slice none 0 0) [] w (by decide) (fun u hu => by simp at hu) ⟨none, 0, rfl, fun j u hj => by simp at hj⟩
              rw [show Row.sort cmpB [] = [] from rfl] at S1
              go_wp2_with (first
                | (go_at_call 14; with_reducible refine (C1 _).mono ?_; rintro e w9 ⟨rfl, hk1⟩; have hk := hk.trans hk1 (fun _ _ h => h); clear hk1)
                | (go_at_call 17; with_reducible refine (S1 _).mono ?_; rintro e w9 ⟨v9, rfl, hn9, hk1⟩; have hk := hk.trans hk1 (fun _ _ h => h); clear hk1; obtain ⟨a8, c8, e9⟩ := hn9.form; subst e9; clear hn9)
                | (go_at_call 11; refine (awake_walk hC hS _).mono ?_; rintro e w9 ⟨rfl, hk1⟩; have hk := hk.trans hk1 (fun _ _ h => h); clear hk1)
                | fail)
              go_ret
              exact ⟨rfl, hk⟩
end Go.Proofs.YtmnmnbpecdofnaaDoor
