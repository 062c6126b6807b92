/-
  The walk over the law EvrNames. Conditions: as each theorem states.
-/
import Derived.Test.YtgnmfpcjpfbjoaaDoorMany03
import Derived.Test.YtgnmfpcjpfbjoaaDoorClass
namespace Go.Proofs.YtgnmfpcjpfbjoaaDoor
open Go.RowKit Ver Evr

def rowX (T : ByteArray) : List ByteArray := [⟨#[]⟩, ⟨#[45, 49]⟩, ⟨#[49, 58]⟩, ⟨#[97, 58, 49]⟩, ⟨#[45, 49, 58, 49]⟩, ⟨#[43, 49, 58, 49]⟩, ⟨#[49, 58, 49, 58, 49]⟩, ⟨#[49, 32]⟩, ⟨#[49, 47, 50]⟩, ⟨#[50, 49, 52, 55, 52, 56, 51, 54, 52, 56, 58, 49]⟩, ⟨#[57, 57, 57, 57, 57, 57, 57, 57, 57, 57, 57, 57, 57, 57, 57, 57, 57, 57, 57, 57, 58, 49]⟩, T, ⟨#[49, 45]⟩ ++ T, ⟨#[49, 58, 45, 49]⟩, ⟨#[128]⟩]
theorem rowX_bad (T : ByteArray) (h1 : parseE T.data.toList = none) (h2 : parseE ((⟨#[49, 45]⟩ : ByteArray) ++ T).data.toList = none) (h3 : T.size = 65) (i : Nat) (x : ByteArray) (h : (rowX T)[i]? = some x) : parseE x.data.toList = none ∧ x.size ≤ 1000000 := by
  have hm := List.mem_of_getElem? h
  simp only [rowX, List.mem_cons, List.not_mem_nil, or_false] at hm
  rcases hm with rfl | rfl | rfl | rfl | rfl | rfl | rfl | rfl | rfl | rfl | rfl | rfl | rfl | rfl | rfl <;> first | exact ⟨by kernel_rfl, by decide⟩ | exact ⟨h1, by omega⟩ | exact ⟨h2, by rw [ByteArray.size_append, h3]; decide⟩

def rowY (A B : ByteArray) : List ByteArray := [⟨#[50, 49, 52, 55, 52, 56, 51, 54, 52, 55, 58, 49]⟩, A ++ ⟨#[45]⟩ ++ B, ⟨#[126]⟩, ⟨#[94]⟩, ⟨#[97, 43, 98, 95, 99, 46, 100, 126, 101, 94, 102, 45, 49]⟩, ⟨#[49, 48, 58, 48]⟩]
theorem rowY_good (A B : ByteArray) (h1 : (parseE (A ++ (⟨#[45]⟩ : ByteArray) ++ B).data.toList).isSome = true) (h2 : A.size = 64) (h3 : B.size = 64) (i : Nat) (x : ByteArray) (h : (rowY A B)[i]? = some x) : (parseE x.data.toList).isSome = true ∧ x.size ≤ 1000000 := by
  have hm := List.mem_of_getElem? h
  simp only [rowY, List.mem_cons, List.not_mem_nil, or_false] at hm
  rcases hm with rfl | rfl | rfl | rfl | rfl | rfl <;> first | exact ⟨by kernel_rfl, by decide⟩ | exact ⟨h1, by rw [ByteArray.size_append, ByteArray.size_append, h2, h3]; decide⟩
theorem some_parts {s : List UInt8} (h : (parseE s).isSome = true) : ∃ (n : Int) (v r : ByteArray), parseE s = some (evrE n v r) := by
  obtain ⟨n, v, r, er, _, h2⟩ := parse_parts s
  rcases h2 with ⟨_, h2⟩ | ⟨_, _, _, _, h2⟩
  · exact ⟨n, v, r, h2⟩
  · rw [h2] at h; cases h
set_option maxRecDepth 100000 in
set_option maxHeartbeats 2000000 in
theorem names3_walk (w : World) (hM : MayK3) (hS : ShowK3 w) (hP : ParseK3 w) (hC : CompareK3) (hW : ∀ W : World, Kept (fun _ => False) w W → Calls Tryd.prog 8 #[] W fun e w' => e = .returned (.bool true) ∧ Kept (fun _ => False) W w') :
    Calls Tryd.prog 3 #[] w fun e w' => e = .returned (.bool true) ∧ Kept (fun _ => False) w w' := by
  have Y1 : ∀ W : World, Calls Tryd.prog 9 #[.int .i64 65, .string ⟨#[49]⟩] W fun e w' => e = .returned (.string (rep 49 65)) ∧ Kept (fun _ => False) W w' := fun W => many_walk 65 49 W (by omega)
  have hz := rep_size 49 65
  have hm : (⟨#[49, 45]⟩ : ByteArray).size + (rep 49 65).size ≤ maxLen := Nat.le_trans (show (⟨#[49, 45]⟩ : ByteArray).size + (rep 49 65).size ≤ 1000 by rw [hz]; decide) (show 1000 ≤ maxLen by decide)
  have HK := Lib.hid (Kept.refl (fun _ => False) w)
  have t1 : parseE (rep 49 65).data.toList = none := by kernel_rfl
  have t2 : parseE ((⟨#[49, 45]⟩ : ByteArray) ++ rep 49 65).data.toList = none := by kernel_rfl
  have TB := Lib.hid (rowX_bad _ t1 t2 hz)
  clear t1 t2
  generalize rep 49 65 = T at *
  have Y2 : ∀ W : World, Calls Tryd.prog 9 #[.int .i64 64, .string ⟨#[49]⟩] W fun e w' => e = .returned (.string (rep 49 64)) ∧ Kept (fun _ => False) W w' := fun W => many_walk 64 49 W (by omega)
  have Y3 : ∀ W : World, Calls Tryd.prog 9 #[.int .i64 64, .string ⟨#[122]⟩] W fun e w' => e = .returned (.string (rep 122 64)) ∧ Kept (fun _ => False) W w' := fun W => many_walk 64 122 W (by omega)
  have z1 := rep_size 49 64
  have z2 := rep_size 122 64
  have m1 : (rep 49 64).size + (⟨#[45]⟩ : ByteArray).size ≤ maxLen := Nat.le_trans (show (rep 49 64).size + (⟨#[45]⟩ : ByteArray).size ≤ 1000 by rw [z1]; decide) (show 1000 ≤ maxLen by decide)
  have m2 : (rep 49 64 ++ ⟨#[45]⟩).size + (rep 122 64).size ≤ maxLen := Nat.le_trans (show (rep 49 64 ++ ⟨#[45]⟩).size + (rep 122 64).size ≤ 1000 by rw [ByteArray.size_append, z1, z2]; decide) (show 1000 ≤ maxLen by decide)
  have t3 : (parseE (rep 49 64 ++ (⟨#[45]⟩ : ByteArray) ++ rep 122 64).data.toList).isSome = true := by kernel_rfl
  have TC := Lib.hid (rowY_good _ _ t3 z1 z2)
  clear t3
  generalize rep 49 64 = A at *
  generalize rep 122 64 = B at *
  go_enter Tryd.func3, Tryd.ntmps3
  go_wp2_with (first
    | (go_at_call 8; with_reducible refine (hW _ HK.out).mono ?_; rintro e w5 ⟨rfl, hk5⟩; have HK := Lib.hid (HK.out.trans hk5 (fun _ _ h => h)); clear hk5)
    | (go_at_call 9; with_reducible refine (Y1 _).mono ?_; rintro e w5 ⟨rfl, hk5⟩; have HK := Lib.hid (HK.out.trans hk5 (fun _ _ h => h)); clear hk5)
    | fail)
  go_loopw [26] (fun v26 wr => ∃ i : Nat, v26 = .int .i64 (i : Int) ∧ i ≤ 15 ∧ Kept (fun _ => False) w wr ∧ ∀ (j : Nat) (x : ByteArray), (rowX T)[j]? = some x → wr.cell? ⟨w5.heap.size, j, none⟩ = some (.string x) ∧ w5.heap.size < wr.heap.size) (fun v26 _ => 15 - (intOf v26).toNat)
  case atStart =>
    refine ⟨0, rfl, Nat.zero_le _, HK.out.alloc _, fun j x hj => ⟨?_, by simp⟩⟩
    rw [(Box.made w5 _ _).cell]
    have e := congrArg (Option.map Value.string) hj
    rw [← List.getElem?_map] at e
    exact (Array.getElem?_toList).symm.trans e
  case round =>
    obtain ⟨i, rfl, hi, hk, hrow⟩ := hrel
    rename World => W
    have HR := Lib.hid hrow
    have HK := Lib.hid hk
    clear hrow hk
    by_cases hi15 : i < 15
    · have hiI : (i : Int) < 15 := by omega
      have hi0 : (0 : Int) ≤ (i : Int) := by omega
      obtain ⟨x, hx⟩ : ∃ x, (rowX T)[i]? = some x := ⟨_, List.getElem?_eq_getElem (by simpa [rowX] using hi15)⟩
      obtain ⟨k1, hsz⟩ := HR.out i x hx
      obtain ⟨y1, y2⟩ := TB.out i x hx
      have B1 := fun W => bad_yes hP x y2 y1 W
      have hwi : IntKind.i64.wrap ((i : Int) + 1) = (i : Int) + 1 := IntWalk.i64_in _ ⟨by omega, by omega⟩
      clear hx y1
      go_wp2_with (first | (go_at_call 10; with_reducible refine (B1 _ HK.out).mono ?_; rintro e w6 ⟨rfl, hk6⟩) | fail)
      go_roundw
      case rel => exact ⟨i + 1, by go_num, by omega, HK.out.trans hk6 (fun _ _ h => h), fun j z hj => ⟨(hk6.cell (p := ⟨_, j, none⟩) (HR.out j z hj).2 (fun h => h)).trans (HR.out j z hj).1, Nat.lt_of_lt_of_le (HR.out j z hj).2 hk6.size⟩⟩
      case measure => first | (simp [intOf]; done) | (simp [intOf]; omega)
    · obtain rfl : i = 15 := by omega
      go_wp2_with (first
        | (go_at_call 9; (first | (with_reducible refine (Y2 _).mono ?_) | (with_reducible refine (Y3 _).mono ?_)); rintro e w7 ⟨rfl, hk7⟩; have HK := Lib.hid (HK.out.trans hk7 (fun _ _ h => h)); clear hk7)
        | fail)
      go_loopw [40] (fun v40 wr => ∃ i : Nat, v40 = .int .i64 (i : Int) ∧ i ≤ 6 ∧ Kept (fun _ => False) w wr ∧ ∀ (j : Nat) (x : ByteArray), (rowY A B)[j]? = some x → wr.cell? ⟨w7.heap.size, j, none⟩ = some (.string x) ∧ w7.heap.size < wr.heap.size) (fun v40 _ => 6 - (intOf v40).toNat)
      case atStart =>
        refine ⟨0, rfl, Nat.zero_le _, HK.out.alloc _, fun j x hj => ⟨?_, by simp⟩⟩
        rw [(Box.made w7 _ _).cell]
        have e := congrArg (Option.map Value.string) hj
        rw [← List.getElem?_map] at e
        exact (Array.getElem?_toList).symm.trans e
      case round =>
        obtain ⟨i, rfl, hi, hk, hrow⟩ := hrel
        have HR := Lib.hid hrow
        have HK := Lib.hid hk
        clear hrow hk
        by_cases hi6 : i < 6
        · have hiI : (i : Int) < 6 := by omega
          have hi0 : (0 : Int) ≤ (i : Int) := by omega
          obtain ⟨x, hx⟩ : ∃ x, (rowY A B)[i]? = some x := ⟨_, List.getElem?_eq_getElem (by simpa [rowY] using hi6)⟩
          obtain ⟨k1, hsz⟩ := HR.out i x hx
          obtain ⟨y1, y2⟩ := TC.out i x hx
          obtain ⟨n, v, r, y3⟩ := some_parts y1
          obtain ⟨s1, s2, _, _⟩ := parse_sizes y3
          obtain ⟨s5, s6⟩ := show_parse y3
          have O1 := fun W => of_lit hP x n v r y2 y3 W
          have S1 := fun W => hS n v r W (by omega) (by omega)
          rw [show_yes s5 s6.symm] at S1
          have hwi : IntKind.i64.wrap ((i : Int) + 1) = (i : Int) + 1 := IntWalk.i64_in _ ⟨by omega, by omega⟩
          clear hx y1 y3 s5 s6
          go_wp2_with (first
            | (go_at_call 12; with_reducible refine (O1 _ HK.out).mono ?_; rintro e w8 ⟨rfl, hk8⟩)
            | (go_at_call 11; with_reducible refine (S1 _ (HK.out.trans hk8 (fun _ _ h => h))).mono ?_; rintro e w9 ⟨rfl, hk9⟩)
            | fail)
          go_roundw
          case rel =>
            have hk6 := hk8.trans hk9 (fun _ _ h => h)
            exact ⟨i + 1, by go_num, by omega, HK.out.trans hk6 (fun _ _ h => h), fun j z hj => ⟨(hk6.cell (p := ⟨_, j, none⟩) (HR.out j z hj).2 (fun h => h)).trans (HR.out j z hj).1, Nat.lt_of_lt_of_le (HR.out j z hj).2 hk6.size⟩⟩
          case measure => first | (simp [intOf]; done) | (simp [intOf]; omega)
        · obtain rfl : i = 6 := by omega
          have G0 := of_lit hP ⟨#[49]⟩ 0 ⟨#[49]⟩ ⟨#[]⟩ (by decide) (by kernel_rfl)
          have G1 := of_lit hP ⟨#[49, 45, 49]⟩ 0 ⟨#[49]⟩ ⟨#[49]⟩ (by decide) (by kernel_rfl)
          have G2 := of_lit hP ⟨#[49, 126, 114, 99, 45, 49]⟩ 0 ⟨#[49, 126, 114, 99]⟩ ⟨#[49]⟩ (by decide) (by kernel_rfl)
          have G3 := of_lit hP ⟨#[49, 94, 112, 111, 115, 116, 45, 49]⟩ 0 ⟨#[49, 94, 112, 111, 115, 116]⟩ ⟨#[49]⟩ (by decide) (by kernel_rfl)
          have G4 := of_lit hP ⟨#[49, 46, 48, 45, 49]⟩ 0 ⟨#[49, 46, 48]⟩ ⟨#[49]⟩ (by decide) (by kernel_rfl)
          have G5 := of_lit hP ⟨#[49, 46, 97, 45, 49]⟩ 0 ⟨#[49, 46, 97]⟩ ⟨#[49]⟩ (by decide) (by kernel_rfl)
          have G6 := of_lit hP ⟨#[49, 95, 48, 45, 49]⟩ 0 ⟨#[49, 95, 48]⟩ ⟨#[49]⟩ (by decide) (by kernel_rfl)
          have G7 := of_lit hP ⟨#[57, 45, 57]⟩ 0 ⟨#[57]⟩ ⟨#[57]⟩ (by decide) (by kernel_rfl)
          have G8 := of_lit hP ⟨#[49, 58, 49]⟩ 1 ⟨#[49]⟩ ⟨#[]⟩ (by decide) (by kernel_rfl)
          have S0 := fun W => hS (-1) ⟨#[49]⟩ ⟨#[]⟩ W (by decide) (by decide)
          rw [show_no (by kernel_rfl)] at S0
          have S1 := fun W => hS 0 ⟨#[49, 58, 49]⟩ ⟨#[]⟩ W (by decide) (by decide)
          rw [show_no (by kernel_rfl)] at S1
          have S2 := fun W => hS 0 ⟨#[]⟩ ⟨#[49]⟩ W (by decide) (by decide)
          rw [show_no (by kernel_rfl)] at S2
          have M0 := fun W => hM 0 ⟨#[49]⟩ ⟨#[]⟩ true W (by decide) (by decide)
          rw [show mayE (evrE 0 ⟨#[49]⟩ ⟨#[]⟩) true = true by kernel_rfl] at M0
          have M1 := fun W => hM 0 ⟨#[49]⟩ ⟨#[]⟩ false W (by decide) (by decide)
          rw [show mayE (evrE 0 ⟨#[49]⟩ ⟨#[]⟩) false = false by kernel_rfl] at M1
          have M2 := fun W => hM 0 ⟨#[49]⟩ ⟨#[49]⟩ false W (by decide) (by decide)
          rw [show mayE (evrE 0 ⟨#[49]⟩ ⟨#[49]⟩) false = true by kernel_rfl] at M2
          have M3 := fun W => hM 0 ⟨#[]⟩ ⟨#[]⟩ true W (by decide) (by decide)
          rw [show mayE (evrE 0 ⟨#[]⟩ ⟨#[]⟩) true = false by kernel_rfl] at M3
          have C0 := cmp_lit3 hC 0 0 ⟨#[49, 126, 114, 99]⟩ ⟨#[49]⟩ ⟨#[49]⟩ ⟨#[49]⟩ (-1) (by decide) (by decide) (by decide) (by decide) (by kernel_rfl)
          have C1 := cmp_lit3 hC 0 0 ⟨#[49]⟩ ⟨#[49]⟩ ⟨#[49, 94, 112, 111, 115, 116]⟩ ⟨#[49]⟩ (-1) (by decide) (by decide) (by decide) (by decide) (by kernel_rfl)
          have C2 := cmp_lit3 hC 0 0 ⟨#[49, 94, 112, 111, 115, 116]⟩ ⟨#[49]⟩ ⟨#[49, 46, 48]⟩ ⟨#[49]⟩ (-1) (by decide) (by decide) (by decide) (by decide) (by kernel_rfl)
          have C3 := cmp_lit3 hC 0 0 ⟨#[49, 46, 97]⟩ ⟨#[49]⟩ ⟨#[49, 46, 48]⟩ ⟨#[49]⟩ (-1) (by decide) (by decide) (by decide) (by decide) (by kernel_rfl)
          have C4 := cmp_lit3 hC 0 0 ⟨#[49, 46, 48]⟩ ⟨#[49]⟩ ⟨#[49, 95, 48]⟩ ⟨#[49]⟩ (0) (by decide) (by decide) (by decide) (by decide) (by kernel_rfl)
          have C5 := cmp_lit3 hC 0 1 ⟨#[57]⟩ ⟨#[57]⟩ ⟨#[49]⟩ ⟨#[]⟩ (-1) (by decide) (by decide) (by decide) (by decide) (by kernel_rfl)
          clear hW Y1 Y2 Y3
          go_wp2_with (first
            | (go_at_call 11; (first | (with_reducible refine (S0 _ HK.out).mono ?_) | (with_reducible refine (S1 _ HK.out).mono ?_) | (with_reducible refine (S2 _ HK.out).mono ?_)); rintro e w8 ⟨rfl, hk8⟩; have HK := Lib.hid (HK.out.trans hk8 (fun _ _ h => h)); clear hk8)
            | (go_at_call 12; (first | (with_reducible refine (G0 _ HK.out).mono ?_) | (with_reducible refine (G1 _ HK.out).mono ?_) | (with_reducible refine (G2 _ HK.out).mono ?_) | (with_reducible refine (G3 _ HK.out).mono ?_) | (with_reducible refine (G4 _ HK.out).mono ?_) | (with_reducible refine (G5 _ HK.out).mono ?_) | (with_reducible refine (G6 _ HK.out).mono ?_) | (with_reducible refine (G7 _ HK.out).mono ?_) | (with_reducible refine (G8 _ HK.out).mono ?_)); rintro e w8 ⟨rfl, hk8⟩; have HK := Lib.hid (HK.out.trans hk8 (fun _ _ h => h)); clear hk8)
            | (go_at_call 13; (first | (with_reducible refine (M0 _).mono ?_) | (with_reducible refine (M1 _).mono ?_) | (with_reducible refine (M2 _).mono ?_) | (with_reducible refine (M3 _).mono ?_)); rintro e w8 ⟨rfl, hk8⟩; have HK := Lib.hid (HK.out.trans hk8 (fun _ _ h => h)); clear hk8)
            | (go_at_call 14; (first | (with_reducible refine (C0 _).mono ?_) | (with_reducible refine (C1 _).mono ?_) | (with_reducible refine (C2 _).mono ?_) | (with_reducible refine (C3 _).mono ?_) | (with_reducible refine (C4 _).mono ?_) | (with_reducible refine (C5 _).mono ?_)); rintro e w8 ⟨rfl, hk8⟩; have HK := Lib.hid (HK.out.trans hk8 (fun _ _ h => h)); clear hk8)
            | fail)
          go_ret
          exact ⟨rfl, HK.out⟩
end Go.Proofs.YtgnmfpcjpfbjoaaDoor
