/-
  strings.IndexByte among the signs of a version, and strings.Cut around one byte, whatever the library's variables hold. Conditions: as each theorem states.
-/
import Derived.Test.YtncononmlgmabaaDoorRef03b
import Derived.Test.YtncononmlgmabaaDoorMathText03
import Derived.Test.YtncononmlgmabaaDoorRows
import Derived.Shelf.Small.Strs
import Derived.Shelf.Strings.Search2
import Derived.WalkKit
namespace Go.Proofs.YtncononmlgmabaaDoor
open Go.Shelf
def sh_lays137_ren : Go.Shelf.Ren := ⟨fun | 137 => 65 | 217 => 78 | 266 => 88 | n => n, fun | 9 => 9 | 5 => 5 | 3 => 3 | n => n, fun | n => n⟩
theorem sh_lays137 : Go.Proofs.Lays.n137 Tryd.prog sh_lays137_ren := {
  mixed := by kernel_rfl
  f137 := Tryd.func65.trans (congrArg some (by kernel_rfl))
  f217 := Tryd.func78.trans (congrArg some (by kernel_rfl))
  f266 := Tryd.func88.trans (congrArg some (by kernel_rfl))
  t3 := Tryd.underlying3
  a3 := Tryd.isAgg3
  z3 := Tryd.sizeOf3
  v3 := Tryd.zeroValue3
  t5 := Tryd.underlying5
  a5 := Tryd.isAgg5
  z5 := Tryd.sizeOf5
  v5 := Tryd.zeroValue5
  t9 := Tryd.underlying9
  a9 := Tryd.isAgg9
  z9 := Tryd.sizeOf9
  v9 := Tryd.zeroValue9 }
open Go.RowKit in
theorem sh_strings_IndexByte (s : ByteArray) (c : Int) (w : World) :
    Calls Tryd.prog 65 #[.string s, .int .u8 c] w fun e w' => e = .returned (.int .i64 (Lib.indexByte s.data.toList c.toNat.toUInt8)) ∧ w' = w := Any.strings_IndexByte sh_lays137 s c w
def sh_lays219_ren : Go.Shelf.Ren := ⟨fun | 219 => 69 | 217 => 78 | 225 => 74 | 224 => 73 | 267 => 80 | 266 => 88 | 314 => 89 | n => n, fun | 9 => 9 | 3 => 3 | 4 => 4 | 5 => 5 | 46 => 47 | 146 => 111 | 51 => 110 | n => n, fun | 1 => 1 | n => n⟩
theorem sh_lays219 : Go.Proofs.Lays.n219 Tryd.prog sh_lays219_ren := {
  mixed := by kernel_rfl
  f217 := Tryd.func78.trans (congrArg some (by kernel_rfl))
  f219 := Tryd.func69.trans (congrArg some (by kernel_rfl))
  f224 := Tryd.func73.trans (congrArg some (by kernel_rfl))
  f225 := Tryd.func74.trans (congrArg some (by kernel_rfl))
  f266 := Tryd.func88.trans (congrArg some (by kernel_rfl))
  f267 := Tryd.func80.trans (congrArg some (by kernel_rfl))
  f314 := Tryd.func89.trans (congrArg some (by kernel_rfl))
  t3 := Tryd.underlying3
  a3 := Tryd.isAgg3
  z3 := Tryd.sizeOf3
  v3 := Tryd.zeroValue3
  t4 := Tryd.underlying4
  a4 := Tryd.isAgg4
  z4 := Tryd.sizeOf4
  v4 := Tryd.zeroValue4
  t5 := Tryd.underlying5
  a5 := Tryd.isAgg5
  z5 := Tryd.sizeOf5
  v5 := Tryd.zeroValue5
  t9 := Tryd.underlying9
  a9 := Tryd.isAgg9
  z9 := Tryd.sizeOf9
  v9 := Tryd.zeroValue9
  t46 := Tryd.underlying47
  a46 := Tryd.isAgg47
  z46 := Tryd.sizeOf47
  v46 := Tryd.zeroValue47
  t51 := Tryd.underlying110
  a51 := Tryd.isAgg110
  z51 := Tryd.sizeOf110
  v51 := Tryd.zeroValue110
  t146 := Tryd.underlying111
  a146 := Tryd.isAgg111
  z146 := Tryd.sizeOf111
  v146 := Tryd.zeroValue111
  g1 := by kernel_rfl }
open Go.RowKit Go.Lib in
theorem sh_stringslite_Index_one (s : ByteArray) (c : UInt8) (w : World) :
    Calls Tryd.prog 69 #[.string s, .string ⟨#[c]⟩] w fun e w' => e = .returned (.int .i64 (Lib.indexByte s.data.toList c)) ∧ w' = w := Any.stringslite_Index_one sh_lays219 s c w
open Go.RowKit Ver Evr
theorem index_sign (b : UInt8) (w : World) :
    Calls Tryd.prog 65 #[.string ⟨#[46, 95, 43, 126, 94]⟩, .int .u8 (b.toNat : Int)] w fun e w' => e = .returned (.int .i64 (Lib.indexByte [46, 95, 43, 126, 94] b)) ∧ w' = w :=
  (sh_strings_IndexByte ⟨#[46, 95, 43, 126, 94]⟩ (b.toNat : Int) w).mono fun e w' ⟨h1, h2⟩ => ⟨by rw [h1]; simp, h2⟩
theorem byte_index (c : UInt8) : ∀ l : List UInt8, (Lib.indexByte l c = -1 ∧ cut c l = (l, [], false)) ∨ ∃ i : Nat, Lib.indexByte l c = i ∧ i < l.length ∧ cut c l = (l.take i, l.drop (i + 1), true)
  | [] => .inl ⟨rfl, rfl⟩
  | b :: l => by
    rw [cut, Lib.indexByte]
    by_cases h : b = c
    · subst h
      exact .inr ⟨0, by simp, by simp, by simp⟩
    · rw [if_neg h]
      have h1 : (b == c) = false := by simp; exact h
      rw [h1]
      rcases byte_index c l with ⟨h2, h3⟩ | ⟨i, h2, hi, h3⟩
      · rw [h2, h3]; exact .inl ⟨rfl, rfl⟩
      · rw [h2, h3]
        refine .inr ⟨i + 1, ?_, by simp; omega, by simp⟩
        have h4 : ((i : Int) == -1) = false := by rw [beq_eq_false_iff_ne]; omega
        simp [h4]
set_option maxRecDepth 100000 in
set_option maxHeartbeats 1000000 in
theorem litecut_walk (s : ByteArray) (c : UInt8) (w : World) (hs : s.size ≤ 1000000) :
    Calls Tryd.prog 81 #[.string s, .string ⟨#[c]⟩] w fun e w' => CutR s c e ∧ Kept (fun _ => False) w w' := by
  have hsl : s.data.toList.length = s.size := rfl
  have hI := fun W => sh_stringslite_Index_one s c W
  rcases byte_index c s.data.toList with ⟨h1, h2⟩ | ⟨i, h1, hi, h2⟩
  · rw [h1] at hI
    have HF := Lib.hid (show cut c s.data.toList = (s.data.toList, (⟨#[]⟩ : ByteArray).data.toList, false) from h2)
    clear h1 h2 hsl
    go_enter Tryd.func81, Tryd.ntmps81
    go_wp2_with (first | (go_at_call 69; with_reducible refine (hI _).mono ?_; rintro e w1 ⟨rfl, rfl⟩) | fail)
    go_returns
    exact ⟨⟨_, _, _, rfl, HF.out, Nat.le_refl _, Nat.zero_le _⟩, by first | exact Kept.refl _ _ | exact (Kept.refl _ _).drewN _⟩
  · rw [h1] at hI
    rw [hsl] at hi
    have HF := Lib.hid (show cut c s.data.toList = ((s.extract 0 i).data.toList, (s.extract (i + 1) s.size).data.toList, true) by
      rw [extract_list, extract_list, h2]
      have hd : (s.data.toList.drop (i + 1)).take (s.size - (i + 1)) = s.data.toList.drop (i + 1) := List.take_of_length_le (by rw [List.length_drop, hsl]; omega)
      simp [hd])
    have hi1 : (i : Int) + 1 ≤ (s.size : Int) := by omega
    have hi0 : (0 : Int) ≤ (i : Int) := by omega
    have hi2 : (i : Int) ≤ (s.size : Int) := by omega
    have hi3 : (0 : Int) ≤ (i : Int) + 1 := by omega
    have hwm : IntKind.i64.wrap ((i : Int) + 1) = (i : Int) + 1 := IntWalk.i64_in _ ⟨by omega, by omega⟩
    have hz1 : (⟨#[c]⟩ : ByteArray).size = 1 := rfl
    clear h1 h2 hsl
    go_enter Tryd.func81, Tryd.ntmps81
    go_wp2_with (first | (go_at_call 69; with_reducible refine (hI _).mono ?_; rintro e w1 ⟨rfl, rfl⟩) | fail)
    go_quiet (fail)
    go_wp2_with fail
    go_returns
    exact ⟨⟨_, _, _, rfl, HF.out, by rw [ByteArray.size_extract]; omega, by rw [ByteArray.size_extract]; omega⟩, (Kept.refl _ _).drewN _⟩
set_option maxRecDepth 100000 in
theorem scut_walk (s : ByteArray) (c : UInt8) (w : World) (hs : s.size ≤ 1000000) :
    Calls Tryd.prog 70 #[.string s, .string ⟨#[c]⟩] w fun e w' => CutR s c e ∧ Kept (fun _ => False) w w' := by
  have hC := fun W => litecut_walk s c W hs
  go_enter Tryd.func70, Tryd.ntmps70
  go_wp2_with (go_at_call 81; refine (hC _).mono ?_; rintro e w1 ⟨⟨x, y, z, rfl, hc, hx, hy⟩, hk⟩; have HC := Lib.hid hc; clear hc)
  go_returns
  exact ⟨⟨x, y, z, rfl, HC.out, hx, hy⟩, hk⟩
end Go.Proofs.YtncononmlgmabaaDoor
